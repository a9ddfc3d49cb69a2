/-
  The walk of ParamKnown.
-/
import Derived.Test.YtelglcchcpnfbaaDoorParN
namespace Go.Proofs.YtelglcchcpnfbaaDoor.Par
open Go.RowKit Utf

/-- an append onto a row of the call's own, at an operation that is done under a condition which holds -/
theorem wpList_appG {P : Program} (w : World) {ops : Array Oper} {rest : List Oper} {o : Oper} {a : Act} {Q : Exit → Act → World → Prop} (hw : Region.wanted o (yielded ops a.tmps) = true) (s x : Operand) (t : TypeId)
    (ho : o.op = .call { callee := .builtin .append, args := #[s, x], argTypes := #[t, t] })
    (base : Nat) (e : TypeId) (i : TypeInfo) (z : Value) (bytes : Nat) (ht : P.underlying t = some (.slice e)) (hi : P.info? e = some i) (hz : i.zero = some z)
    (hsize : i.size = 1) (hby : i.bytes = bytes) (hzs : z.cells.size = 1)
    (v : Value) (n : Nat) (xs : List Value) (hs : a.eval s = v) (hown : w.ownsRow base e 1 v n xs)
    (A : Option Addr) (m c : Nat) (news : List Value) (hx : a.eval x = .slice A m c) (hm : news.length = m) (hr : Rd w A news) (h1 : ∀ u ∈ news, u.oneCell' = true)
    (hsmall : n + m ≤ 1000000) (hb8 : bytes ≤ 64) (hbase : base ≤ w.heap.size)
    (h : ∀ v' w', w'.ownsRow base e 1 v' (n + m) (xs ++ news) → Below base w w' → wpList P ops Q rest (a.put o.dst v') w') : wpList P ops Q (o :: rest) a w := by
  show if _ then _ else _
  rw [if_pos hw]
  exact .inl (wp_app w s x t ho base e i z bytes ht hi hz hsize hby hzs v n xs hs hown A m c news hx hm hr h1 hsmall hb8 hbase fun v' w' h2 h3 _ => h v' w' h2 ((Below.refl _ _).grown h3 hbase fun k hk => (hown.lt k hk).1))
theorem step_is (v : Value) (l : List (List Int)) (c : UInt8) (z : Int) (r : List (List Int)) (x : Int) (w : World) (h : RL w v l) (hl : Sz l) (hz : ((c.toNat : Nat) : Int) = z) (hs : stpV l c = (r, x)) :
    Calls Tryd.prog 21 #[v, .int .u8 z] w fun e w' => ∃ v', e = .returned (.tuple #[v', .int .i64 x]) ∧ RO w.heap.size w' v' r ∧ Below w.heap.size w w' := by
  subst hz
  have := step_any v l c w h hl
  rwa [hs] at this
theorem check_long (A : Option Addr) (n c : Nat) (w : World) (h : 16 < n) : Calls Tryd.prog 14 #[.slice A n c] w fun e w' => e = .returned (.int .i64 150) ∧ w = w' := by
  have h1 : decide ((16 : Int) < (n : Int)) = true := decide_eq_true (by omega)
  go_enter Tryd.func14, Tryd.ntmps14
  go_wp2
  go_ret
  exact ⟨rfl, rfl⟩
theorem prs_long (s : List UInt8) (h : 4096 < s.length) : (decide ((prsV s).2 = 3) && decide ((prsV s).1 = [])) = true := by
  unfold prsV; rw [if_pos h]; rfl
theorem run_zeros (n : Nat) : runV [[0]] (List.replicate n 48) = ([[0]], 0) := by
  induction n with
  | zero => rfl
  | succ n ih =>
    have e : stpV [[0]] 48 = ([[0]], 0) := by decide +kernel
    rw [List.replicate_succ, runV, e]
    simp [ih]
theorem repeat_one (c : UInt8) (n : Nat) : Lib.repeatL [c] n = List.replicate n c := by
  induction n with
  | zero => rfl
  | succ n ih => rw [Lib.repeatL, ih]; rfl
theorem of_arr (l : List UInt8) : (⟨l.toArray⟩ : ByteArray).data.toList = l := by simp
theorem prs_zerosN (n : Nat) (h : n + 1 ≤ 4096) : prsV (List.replicate (n + 1) 48) = ([[0]], 0) := by
  unfold prsV
  rw [if_neg (by rw [List.length_replicate]; omega), List.replicate_succ, runV]
  have e : stpV [] 48 = ([[0]], 0) := by decide +kernel
  rw [e]
  exact run_zeros _
theorem prs_zeros : prsV (⟨(Lib.repeatL (⟨#[48]⟩ : ByteArray).data.toList 4096).toArray⟩ : ByteArray).data.toList = ([[0]], 0) := by
  rw [of_arr, show (⟨#[48]⟩ : ByteArray).data.toList = [48] from rfl, repeat_one]
  exact prs_zerosN 4095 (by decide)
theorem prs_ones : (decide ((prsV (⟨(Lib.repeatL (⟨#[49]⟩ : ByteArray).data.toList 4097).toArray⟩ : ByteArray).data.toList).2 = 3) && decide ((prsV (⟨(Lib.repeatL (⟨#[49]⟩ : ByteArray).data.toList 4097).toArray⟩ : ByteArray).data.toList).1 = [])) = true :=
  prs_long _ (by rw [of_arr, show (⟨#[49]⟩ : ByteArray).data.toList = [49] from rfl, repeat_one, List.length_replicate]; decide)
def mostB : ByteArray := ⟨(Lib.repeatL (⟨#[57, 57, 57, 57, 58, 49, 58, 50, 58, 51, 58, 52, 58, 53, 59]⟩ : ByteArray).data.toList 16).toArray⟩
theorem most_size : mostB.size = 240 := by decide +kernel
def fullL : List (List Int) := [[9999, 1, 2, 3, 4, 5], [9999, 1, 2, 3, 4, 5], [9999, 1, 2, 3, 4, 5], [9999, 1, 2, 3, 4, 5], [9999, 1, 2, 3, 4, 5], [9999, 1, 2, 3, 4, 5], [9999, 1, 2, 3, 4, 5], [9999, 1, 2, 3, 4, 5], [9999, 1, 2, 3, 4, 5], [9999, 1, 2, 3, 4, 5], [9999, 1, 2, 3, 4, 5], [9999, 1, 2, 3, 4, 5], [9999, 1, 2, 3, 4, 5], [9999, 1, 2, 3, 4, 5], [9999, 1, 2, 3, 4, 5], [9999, 1, 2, 3, 4, 5]]
theorem fullL_len : fullL.length = 16 := rfl
theorem kfull : prsV (mostB.extract 0 239).data.toList = (fullL, 0) := by decide +kernel
theorem kfullc : chkV fullL = 0 := by decide +kernel
theorem fullL_sz : Sz fullL := by have := sz_prsV (mostB.extract 0 239).data.toList; rwa [kfull] at this
theorem kref0 : (decide ((prsV mostB.data.toList).2 = 3) && decide ((prsV mostB.data.toList).1 = [])) = true := by decide +kernel
def mostA : ByteArray := mostB ++ (⟨#[97]⟩ : ByteArray)
theorem mostA_eq : mostB ++ (⟨#[97]⟩ : ByteArray) = mostA := rfl
theorem kref1 : (decide ((prsV mostA.data.toList).2 = 3) && decide ((prsV mostA.data.toList).1 = [])) = true := by decide +kernel
theorem kst0 : stpV [[-1]] 97 = ([], 150) := by decide +kernel
theorem kst1 : stpV [] 45 = ([], 6) := by decide +kernel
theorem kst2 : stpV [] 58 = ([[-1, -1]], 0) := by decide +kernel
theorem kch0 : chkV [] = 0 := by decide +kernel
theorem kch1 : chkV [[-1], [-1]] = 0 := by decide +kernel
theorem kch2 : chkV [[-1, -1]] = 0 := by decide +kernel
theorem kch3 : chkV [[-2]] = 150 := by decide +kernel
theorem kch4 : chkV [[1, 2, 3, 4, 5, 6, 7]] = 150 := by decide +kernel
theorem kprt : prtV [] = ⟨#[]⟩ := by decide +kernel
theorem kprc : chkV [] = 0 := by decide +kernel
theorem kvl0 : valV [] (0) 3 = 3 := by decide +kernel
theorem kvl1 : valV [[]] (0) 3 = 3 := by decide +kernel
theorem kvl2 : valV [[0]] (0) 3 = 0 := by decide +kernel
theorem kvl3 : valV [[4]] (-1) 3 = 3 := by decide +kernel
theorem kvl4 : valV [[-7]] (0) 3 = 3 := by decide +kernel
set_option maxRecDepth 100000 in
set_option maxHeartbeats 16000000 in
theorem known_any (w : World) (ht : Tab w) : Calls Tryd.prog 9 #[] w fun e w' => e = .returned (.bool true) ∧ Below w.heap.size w w' := by
  have HT := Lib.hid ht; clear ht
  obtain ⟨i0, hi0, hz0, hz1, hz2⟩ := info_parts infoP
  go_enter Tryd.func9, Tryd.ntmps9
  go_wp2_with fail
  refine (Tryd.strings_Repeat ⟨#[57, 57, 57, 57, 58, 49, 58, 50, 58, 51, 58, 52, 58, 53, 59]⟩ 16 _ (by decide) (by decide)).mono ?_
  rintro e w1 ⟨rfl, hb1⟩
  have HB1 := Lib.hid (show Below w.heap.size w w1 from hb1)
  clear hb1
  rw [show (⟨(Lib.repeatL (⟨#[57, 57, 57, 57, 58, 49, 58, 50, 58, 51, 58, 52, 58, 53, 59]⟩ : ByteArray).data.toList 16).toArray⟩ : ByteArray) = mostB from rfl]
  have hms := most_size
  go_wp2_with fail
  refine (parse_any (mostB.extract 0 239) _).mono ?_
  rw [kfull]
  dsimp only
  rintro e w2 ⟨v2, rfl, h2, hb2⟩
  obtain ⟨A2, c2, rfl⟩ := h2.1.form
  rw [fullL_len] at h2 ⊢
  have H2 := Lib.hid (h2.mono HB1.out.size)
  clear h2
  have HB2 := Lib.hid (show Below w.heap.size w w2 from up HB1.out hb2)
  clear hb2
  go_wp2_with fail
  refine (check_any _ fullL _ H2.out.1 fullL_sz.1 fullL_sz.2).mono ?_
  rw [kfullc]
  rintro e w3 ⟨rfl, hb3⟩
  have HB3 := Lib.hid (show Below w.heap.size w w3 from up HB2.out hb3)
  have H3x := Lib.hid (H2.out.keep hb3)
  clear hb3
  go_wp2_with fail
  refine (refused_any mostB 3 _ true kref0).mono ?_
  rintro e w4 ⟨rfl, hb4⟩
  have HB4 := Lib.hid (show Below w.heap.size w w4 from up HB3.out hb4)
  have H4x := Lib.hid (H3x.out.keep hb4)
  clear hb4
  go_wp2_with fail
  rw [mostA_eq]
  refine (refused_any mostA 3 _ true kref1).mono ?_
  rintro e w5 ⟨rfl, hb5⟩
  have HB5 := Lib.hid (show Below w.heap.size w w5 from up HB4.out hb5)
  have H5x := Lib.hid (H4x.out.keep hb5)
  clear hb5
  obtain ⟨vs, hvs⟩ := H5x.out.2
  have hvs2 : ((w5.alloc (.cells #[.int .i64 1] 3)).alloc (.cells #[.slice (some ⟨w5.heap.size, 0, none⟩) 1 1] 31)).ownsRow w.heap.size 31 1 (.slice A2 16 c2) 16 vs := own_below (own_below hvs (below_box _ _)) (below_box _ _)
  have HV := Lib.hid hvs2
  clear hvs hvs2
  have hz1s : w.heap.size ≤ w5.heap.size := HB5.out.size
  go_wp2_with (at_builtin; refine wpList_appG _ (by rfl) _ _ 22 rfl w.heap.size 31 i0 _ 24 Tryd.underlying22 hi0 hz0 hz1 hz2 rfl _ 16 vs rfl HV.out (some ⟨w5.heap.size + 1, 0, none⟩) 1 1 [.slice (some ⟨w5.heap.size, 0, none⟩) 1 1] rfl rfl (by have := Rd.one (w5.alloc (.cells #[.int .i64 1] 3)) (.slice (some ⟨w5.heap.size, 0, none⟩) 1 1) 31; rwa [World.size_alloc] at this) (by intro u hu; simp at hu; subst hu; rfl) (by decide) (by decide) (by rw [World.size_alloc, World.size_alloc]; omega) ?_; intro v9 w9 hown9 hgrow9; refine Hid.out ?_)
  refine Lib.hid ?_
  obtain ⟨A9, c9, hsh9, _, _⟩ := own_slice hown9
  subst hsh9
  have HB6 := Lib.hid (show Below w.heap.size w w9 from (up HB5.out (up (below_box _ _) (below_box _ _))).trans hgrow9)
  clear hown9 hgrow9
  go_wp2_with fail
  refine (check_long _ _ _ _ (by decide)).mono ?_
  rintro e w10 ⟨rfl, rfl⟩
  go_wp2_with fail
  refine (row_any _ [[-1]] _ (lit1 w9 [-1] _ rfl 1 rfl (by decide) _ _) (by decide)).mono ?_
  rintro e w7 ⟨v7, rfl, h7, hb7⟩
  have H7 := Lib.hid h7
  obtain ⟨A7, c7, rfl⟩ := h7.form
  clear h7
  rw [show ([[-1]] : List (List Int)).length = 1 from rfl] at H7 ⊢
  have HB7 := Lib.hid (show Below w.heap.size w w7 from up HB6.out (up (up (below_box _ _) (below_box _ _)) hb7))
  clear hb7
  go_wp2_with fail
  refine (step_is _ [[-1]] 97 97 [] 150 _ H7.out ⟨by decide, by decide⟩ rfl kst0).mono ?_
  rintro e w8 ⟨v8, rfl, h8, hb8⟩
  obtain ⟨A8, c8, rfl⟩ := h8.1.form
  rw [show ([] : List (List Int)).length = 0 from rfl] at h8 ⊢
  clear h8
  have HB8 := Lib.hid (show Below w.heap.size w w8 from up HB7.out hb8)
  clear hb8
  go_wp2_with fail
  refine (step_is _ [] 45 45 [] 6 _ (RL.nil _) ⟨by decide, by decide⟩ rfl kst1).mono ?_
  rintro e w9 ⟨v9, rfl, h9, hb9⟩
  obtain ⟨A9, c9, rfl⟩ := h9.1.form
  rw [show ([] : List (List Int)).length = 0 from rfl] at h9 ⊢
  clear h9
  have HB9 := Lib.hid (show Below w.heap.size w w9 from up HB8.out hb9)
  clear hb9
  go_wp2_with fail
  refine (step_is _ [] 58 58 [[-1, -1]] 0 _ (RL.nil _) ⟨by decide, by decide⟩ rfl kst2).mono ?_
  rintro e w10 ⟨v10, rfl, h10, hb10⟩
  obtain ⟨A10, c10, rfl⟩ := h10.1.form
  rw [show ([[-1, -1]] : List (List Int)).length = 1 from rfl] at h10 ⊢
  have H10 := Lib.hid h10.1
  clear h10
  have HB10 := Lib.hid (show Below w.heap.size w w10 from up HB9.out hb10)
  clear hb10
  go_wp2_with fail
  refine (check_any _ [] _ (RL.nil _) (by decide) (by decide)).mono ?_
  rw [kch0]
  rintro e w11 ⟨rfl, hb11⟩
  have HB11 := Lib.hid (show Below w.heap.size w w11 from up HB10.out hb11)
  have HO11 := Lib.hid ((H10.out).keep hb11)
  clear hb11
  go_wp2_with fail
  refine (row_any _ [[-1], [-1]] _ (lit2 w11 [-1] [-1] _ _ rfl rfl 1 1 rfl rfl (by decide) (by decide) _ _) (by decide)).mono ?_
  rintro e w12 ⟨v12, rfl, h12, hb12⟩
  have H12 := Lib.hid h12
  obtain ⟨A12, c12, rfl⟩ := h12.form
  clear h12
  rw [show ([[-1], [-1]] : List (List Int)).length = 2 from rfl] at H12 ⊢
  have HB12 := Lib.hid (show Below w.heap.size w w12 from up HB11.out (up (up (up (below_box _ _) (below_box _ _)) (below_box _ _)) hb12))
  have HO12 := Lib.hid ((HO11.out).keep (up (up (up (below_box _ _) (below_box _ _)) (below_box _ _)) hb12))
  clear hb12
  go_wp2_with fail
  refine (check_any _ [[-1], [-1]] _ H12.out (by decide) (by decide)).mono ?_
  rw [kch1]
  rintro e w13 ⟨rfl, hb13⟩
  have HB13 := Lib.hid (show Below w.heap.size w w13 from up HB12.out hb13)
  have HO13 := Lib.hid ((HO12.out).keep hb13)
  clear hb13
  go_wp2_with fail
  refine (row_any _ [[-1, -1]] _ (lit1 w13 [-1, -1] _ rfl 2 rfl (by decide) _ _) (by decide)).mono ?_
  rintro e w14 ⟨v14, rfl, h14, hb14⟩
  have H14 := Lib.hid h14
  obtain ⟨A14, c14, rfl⟩ := h14.form
  clear h14
  rw [show ([[-1, -1]] : List (List Int)).length = 1 from rfl] at H14 ⊢
  have HB14 := Lib.hid (show Below w.heap.size w w14 from up HB13.out (up (up (below_box _ _) (below_box _ _)) hb14))
  have HO14 := Lib.hid ((HO13.out).keep (up (up (below_box _ _) (below_box _ _)) hb14))
  clear hb14
  go_wp2_with fail
  refine (check_any _ [[-1, -1]] _ H14.out (by decide) (by decide)).mono ?_
  rw [kch2]
  rintro e w15 ⟨rfl, hb15⟩
  have HB15 := Lib.hid (show Below w.heap.size w w15 from up HB14.out hb15)
  have HO15 := Lib.hid ((HO14.out).keep hb15)
  clear hb15
  go_wp2_with fail
  refine (row_any _ [[-2]] _ (lit1 w15 [-2] _ rfl 1 rfl (by decide) _ _) (by decide)).mono ?_
  rintro e w16 ⟨v16, rfl, h16, hb16⟩
  have H16 := Lib.hid h16
  obtain ⟨A16, c16, rfl⟩ := h16.form
  clear h16
  rw [show ([[-2]] : List (List Int)).length = 1 from rfl] at H16 ⊢
  have HB16 := Lib.hid (show Below w.heap.size w w16 from up HB15.out (up (up (below_box _ _) (below_box _ _)) hb16))
  have HO16 := Lib.hid ((HO15.out).keep (up (up (below_box _ _) (below_box _ _)) hb16))
  clear hb16
  go_wp2_with fail
  refine (check_any _ [[-2]] _ H16.out (by decide) (by decide)).mono ?_
  rw [kch3]
  rintro e w17 ⟨rfl, hb17⟩
  have HB17 := Lib.hid (show Below w.heap.size w w17 from up HB16.out hb17)
  have HO17 := Lib.hid ((HO16.out).keep hb17)
  clear hb17
  go_wp2_with fail
  refine (row_any _ [[1, 2, 3, 4, 5, 6, 7]] _ (lit1 w17 [1, 2, 3, 4, 5, 6, 7] _ rfl 7 rfl (by decide) _ _) (by decide)).mono ?_
  rintro e w18 ⟨v18, rfl, h18, hb18⟩
  have H18 := Lib.hid h18
  obtain ⟨A18, c18, rfl⟩ := h18.form
  clear h18
  rw [show ([[1, 2, 3, 4, 5, 6, 7]] : List (List Int)).length = 1 from rfl] at H18 ⊢
  have HB18 := Lib.hid (show Below w.heap.size w w18 from up HB17.out (up (up (below_box _ _) (below_box _ _)) hb18))
  have HO18 := Lib.hid ((HO17.out).keep (up (up (below_box _ _) (below_box _ _)) hb18))
  clear hb18
  go_wp2_with fail
  refine (check_any _ [[1, 2, 3, 4, 5, 6, 7]] _ H18.out (by decide) (by decide)).mono ?_
  rw [kch4]
  rintro e w19 ⟨rfl, hb19⟩
  have HB19 := Lib.hid (show Below w.heap.size w w19 from up HB18.out hb19)
  have HO19 := Lib.hid ((HO18.out).keep hb19)
  clear hb19
  go_wp2_with fail
  refine (print_any _ [] _ (RL.nil _) ⟨by decide, by decide⟩ (HT.out.keep HB19.out)).mono ?_
  rw [kprt, kprc]
  rintro e w20 ⟨rfl, hb20⟩
  have HB20 := Lib.hid (show Below w.heap.size w w20 from up HB19.out hb20)
  have HO20 := Lib.hid ((HO19.out).keep hb20)
  clear hb20
  go_wp2_with fail
  refine (value_any _ [] (0) 3 _ ((RL.nil _))).mono ?_
  rw [kvl0]
  rintro e w21 ⟨rfl, hb21⟩
  have HB21 := Lib.hid (show Below w.heap.size w w21 from up HB20.out hb21)
  have HO21 := Lib.hid ((HO20.out).keep hb21)
  clear hb21
  go_wp2_with fail
  refine (row_any _ [[]] _ (litN w21 _) (by decide)).mono ?_
  rintro e w22 ⟨v22, rfl, h22, hb22⟩
  have H22 := Lib.hid h22
  obtain ⟨A22, c22, rfl⟩ := h22.form
  clear h22
  rw [show ([[]] : List (List Int)).length = 1 from rfl] at H22 ⊢
  have HB22 := Lib.hid (show Below w.heap.size w w22 from up HB21.out (up (below_box _ _) hb22))
  have HO22 := Lib.hid ((HO21.out).keep (up (below_box _ _) hb22))
  clear hb22
  go_wp2_with fail
  refine (value_any _ [[]] (0) 3 _ (H22.out)).mono ?_
  rw [kvl1]
  rintro e w23 ⟨rfl, hb23⟩
  have HB23 := Lib.hid (show Below w.heap.size w w23 from up HB22.out hb23)
  have HO23 := Lib.hid ((HO22.out).keep hb23)
  clear hb23
  go_wp2_with fail
  refine (row_any _ [[0]] _ (lit1 w23 [0] _ rfl 1 rfl (by decide) _ _) (by decide)).mono ?_
  rintro e w24 ⟨v24, rfl, h24, hb24⟩
  have H24 := Lib.hid h24
  obtain ⟨A24, c24, rfl⟩ := h24.form
  clear h24
  rw [show ([[0]] : List (List Int)).length = 1 from rfl] at H24 ⊢
  have HB24 := Lib.hid (show Below w.heap.size w w24 from up HB23.out (up (up (below_box _ _) (below_box _ _)) hb24))
  have HO24 := Lib.hid ((HO23.out).keep (up (up (below_box _ _) (below_box _ _)) hb24))
  clear hb24
  go_wp2_with fail
  refine (value_any _ [[0]] (0) 3 _ (H24.out)).mono ?_
  rw [kvl2]
  rintro e w25 ⟨rfl, hb25⟩
  have HB25 := Lib.hid (show Below w.heap.size w w25 from up HB24.out hb25)
  have HO25 := Lib.hid ((HO24.out).keep hb25)
  clear hb25
  go_wp2_with fail
  refine (row_any _ [[4]] _ (lit1 w25 [4] _ rfl 1 rfl (by decide) _ _) (by decide)).mono ?_
  rintro e w26 ⟨v26, rfl, h26, hb26⟩
  have H26 := Lib.hid h26
  obtain ⟨A26, c26, rfl⟩ := h26.form
  clear h26
  rw [show ([[4]] : List (List Int)).length = 1 from rfl] at H26 ⊢
  have HB26 := Lib.hid (show Below w.heap.size w w26 from up HB25.out (up (up (below_box _ _) (below_box _ _)) hb26))
  have HO26 := Lib.hid ((HO25.out).keep (up (up (below_box _ _) (below_box _ _)) hb26))
  clear hb26
  go_wp2_with fail
  refine (value_any _ [[4]] (-1) 3 _ (H26.out)).mono ?_
  rw [kvl3]
  rintro e w27 ⟨rfl, hb27⟩
  have HB27 := Lib.hid (show Below w.heap.size w w27 from up HB26.out hb27)
  have HO27 := Lib.hid ((HO26.out).keep hb27)
  clear hb27
  go_wp2_with fail
  refine (row_any _ [[-7]] _ (lit1 w27 [-7] _ rfl 1 rfl (by decide) _ _) (by decide)).mono ?_
  rintro e w28 ⟨v28, rfl, h28, hb28⟩
  have H28 := Lib.hid h28
  obtain ⟨A28, c28, rfl⟩ := h28.form
  clear h28
  rw [show ([[-7]] : List (List Int)).length = 1 from rfl] at H28 ⊢
  have HB28 := Lib.hid (show Below w.heap.size w w28 from up HB27.out (up (up (below_box _ _) (below_box _ _)) hb28))
  have HO28 := Lib.hid ((HO27.out).keep (up (up (below_box _ _) (below_box _ _)) hb28))
  clear hb28
  go_wp2_with fail
  refine (value_any _ [[-7]] (0) 3 _ (H28.out)).mono ?_
  rw [kvl4]
  rintro e w29 ⟨rfl, hb29⟩
  have HB29 := Lib.hid (show Below w.heap.size w w29 from up HB28.out hb29)
  have HO29 := Lib.hid ((HO28.out).keep hb29)
  clear hb29
  go_wp2_with fail
  refine (works_any _ (HT.out.keep HB29.out)).mono ?_
  rintro e w30 ⟨rfl, hb30⟩
  have HB30 := Lib.hid (show Below w.heap.size w w30 from up HB29.out hb30)
  have HO30 := Lib.hid ((HO29.out).keep hb30)
  clear hb30
  go_wp2_with fail
  refine (row_any _ [[-1, -1]] _ (lit1 w30 [-1, -1] _ rfl 2 rfl (by decide) _ _) (by decide)).mono ?_
  rintro e w31 ⟨v31, rfl, h31, hb31⟩
  have H31 := Lib.hid h31
  obtain ⟨A31, c31, rfl⟩ := h31.form
  clear h31
  rw [show ([[-1, -1]] : List (List Int)).length = 1 from rfl] at H31 ⊢
  have HB31 := Lib.hid (show Below w.heap.size w w31 from up HB30.out (up (up (below_box _ _) (below_box _ _)) hb31))
  have HO31 := Lib.hid ((HO30.out).keep (up (up (below_box _ _) (below_box _ _)) hb31))
  clear hb31
  go_wp2_with fail
  refine (rsame_any _ _ [[-1, -1]] [[-1, -1]] _ HO31.out H31.out (by decide) (by decide) (by decide)).mono ?_
  rw [decide_eq_true rfl]
  rintro e w32 ⟨rfl, hb32⟩
  have HB32 := Lib.hid (show Below w.heap.size w w32 from up HB31.out hb32)
  clear hb32
  go_wp2_with fail
  refine (Tryd.strings_Repeat ⟨#[49]⟩ 4097 _ (by decide) (by decide)).mono ?_
  rintro e w33 ⟨rfl, hb33⟩
  have HB33 := Lib.hid (show Below w.heap.size w w33 from up HB32.out hb33)
  clear hb33
  go_wp2_with fail
  refine (refused_any _ 3 _ true prs_ones).mono ?_
  rintro e w34 ⟨rfl, hb34⟩
  have HB34 := Lib.hid (show Below w.heap.size w w34 from up HB33.out hb34)
  clear hb34
  go_wp2_with fail
  refine (Tryd.strings_Repeat ⟨#[48]⟩ 4096 _ (by decide) (by decide)).mono ?_
  rintro e w35 ⟨rfl, hb35⟩
  have HB35 := Lib.hid (show Below w.heap.size w w35 from up HB34.out hb35)
  clear hb35
  go_wp2_with fail
  refine (is_true _ _ [[0]] _ (lit1 w35 [0] _ rfl 1 rfl (by decide) _ _) (by decide) (by decide) prs_zeros).mono ?_
  rintro e w36 ⟨rfl, hb36⟩
  have HB36 := Lib.hid (show Below w.heap.size w w36 from up HB35.out (up (up (below_box _ _) (below_box _ _)) hb36))
  clear hb36
  go_wp2
  go_ret
  exact ⟨rfl, HB36.out⟩
end Go.Proofs.YtelglcchcpnfbaaDoor.Par
