/-
  The walk of ParamCanon.
-/
import Derived.Test.YtelglcchcpnfbaaDoorParN
import Derived.Test.YtelglcchcpnfbaaDoorParV
import Derived.Test.YtelglcchcpnfbaaDoorParU
namespace Go.Proofs.YtelglcchcpnfbaaDoor.Par
open Go.RowKit Utf

def signL : List UInt8 := [48, 49, 50, 51, 52, 53, 54, 55, 56, 57, 58, 59]
def signOf (b : UInt8) : UInt8 := UInt8.ofNat (48 + b.toNat % 12)
theorem signOf_in (b : UInt8) : 48 ≤ (signOf b).toNat ∧ (signOf b).toNat ≤ 59 := by
  unfold signOf
  rw [UInt8.toNat_ofNat']; omega
theorem sign_run (m : Nat) (hm : m < 12) (w : World) : (Instr.index 9 (.string ⟨#[48, 49, 50, 51, 52, 53, 54, 55, 56, 57, 58, 59]⟩) (.int .u8 (m : Int))).run Tryd.prog w = .ok (.int .u8 (48 + (m : Int))) w := by
  have h3 : m < (⟨#[48, 49, 50, 51, 52, 53, 54, 55, 56, 57, 58, 59]⟩ : ByteArray).size := hm
  rw [run_index_string w 9 _ .u8 m Tryd.underlying9, dif_pos ⟨by omega, by omega⟩]
  have : ∀ i : Fin 12, (((⟨#[48, 49, 50, 51, 52, 53, 54, 55, 56, 57, 58, 59]⟩ : ByteArray)[i.val]'i.isLt).toNat : Int) = 48 + (i.val : Int) := by decide +kernel
  have := this ⟨m, hm⟩
  simp only [Int.toNat_natCast]
  rw [← this]
set_option maxRecDepth 100000 in
set_option maxHeartbeats 8000000 in
theorem canon_any (A : Option Addr) (n c : Nat) (bs : List UInt8) (C : Nat) (w : World) (hn : bs.length = n) (hA : Rd w A (cB bs)) (ht : Tab w) (hC : C < 256) :
    Calls Tryd.prog 7 #[.slice A n c, .int .u8 (C : Int)] w fun e w' => e = .returned (.bool true) ∧ Below w.heap.size w w' := by
  have HT := Lib.hid ht; clear ht
  have HA := Lib.hid hA; clear hA
  have Hn := Lib.hid hn; clear hn
  obtain ⟨t0, hi0, hz0, hz1, hz2⟩ := info_parts infoB
  go_enter Tryd.func7, Tryd.ntmps7
  go_wp2_with fail
  refine (works_any _ HT.out).mono ?_
  rintro e1 w1 ⟨rfl, hb1⟩
  have HB1 := Lib.hid hb1; clear hb1
  go_wp2_with fail
  go_loopw [6, 5] (fun iv ov wr => ∃ i : Nat, i ≤ n ∧ i ≤ 100 ∧ iv = .int .i64 i ∧ Hid (wr.ownsRow w1.heap.size 5 1 ov i (cB ((bs.take i).map signOf)) ∧ Below w1.heap.size w1 wr)) (fun iv _ _ => 100 - (intOf iv).toNat)
  case atStart => exact ⟨0, Nat.zero_le _, by omega, rfl, World.ownsRow_nil _ _ _ _, Below.refl _ _⟩
  case round =>
    obtain ⟨i, hin, hi100, rfl, hid⟩ := hrel
    obtain ⟨AO, co, hsh, _, _⟩ := own_slice hid.out.1
    subst hsh
    by_cases hlt : i < n
    · by_cases hlt2 : i < 100
      · obtain ⟨b, hb⟩ := get_some bs i (by rw [Hn.out]; exact hlt)
        obtain ⟨bd, rfl, hbl, hcb⟩ := HA.out i _ (cB_at bs i b hb)
        have hcb1 := ((up HB1.out hid.out.2).cell (p := bd.add i) (by rw [add_block]; exact hbl)).trans hcb
        obtain ⟨X, hX⟩ : ∃ X, X = b.toNat := ⟨_, rfl⟩
        obtain ⟨M, hM⟩ : ∃ M, M = X % 12 := ⟨_, rfl⟩
        have hM2 : M < 12 := by omega
        have em : ((X : Int) % 12) = (M : Int) := by omega
        have hsg := sign_run M hM2
        have Hs := Lib.hid (show cB ((bs.take (i + 1)).map signOf) = cB ((bs.take i).map signOf) ++ [.int .u8 (48 + (M : Int))] by
          rw [get_take bs i b hb, List.map_append, cB_append]
          congr 1
          show [Value.int .u8 ((signOf b).toNat : Int)] = _
          have : ((signOf b).toNat : Int) = 48 + (M : Int) := by
            unfold signOf
            rw [UInt8.toNat_ofNat', ← hX, ← hM]; omega
          rw [this])
        rw [← hX] at hcb1
        clear hcb hb hX hM
        have c1 : decide ((i : Int) < (n : Int)) = true := decide_eq_true (by omega)
        have c2 : decide ((i : Int) < 100) = true := decide_eq_true (by omega)
        have i1 : (0 : Int) ≤ (i : Int) := by omega
        have i2 : (i : Int) < (n : Int) := by omega
        have hsz := hid.out.2.size
        go_wp2_with (at_builtin; refine wpList_appB _ rfl _ _ 24 rfl w1.heap.size 5 t0 _ 1 Tryd.underlying24 hi0 hz0 hz1 hz2 rfl _ i (cB ((bs.take i).map signOf)) rfl (own_below hid.out.1 (below_box _ _)) (some ⟨wr.heap.size, 0, none⟩) 1 1 [.int .u8 (48 + (M : Int))] rfl rfl (Rd.one _ _ _) (by intro u hu; simp at hu; subst hu; rfl) (by omega) (by decide) (by rw [World.size_alloc]; omega) ?_; intro v' w' hown hgrow; obtain ⟨A2, c2, hsh2, _, _⟩ := own_slice hown; subst hsh2)
        go_roundw
        case rel => exact ⟨i + 1, by omega, by omega, by go_num, by rw [Hs.out]; exact hown, (hid.out.2.trans ((below_box _ _).mono hid.out.2.size)).trans hgrow⟩
        case measure => simp [intOf]; omega
      · have c1 : decide ((i : Int) < (n : Int)) = true := decide_eq_true (by omega)
        have c2 : decide ((i : Int) < 100) = false := decide_eq_false (by omega)
        have hcv := str_back hid.out.1
        have hLl : ((bs.take i).map signOf).length ≤ 100 := by rw [List.length_map, List.length_take]; omega
        have hLc : ∀ c ∈ (bs.take i).map signOf, 48 ≤ c.toNat ∧ c.toNat ≤ 59 := fun c hc => by
          obtain ⟨b, _, rfl⟩ := List.mem_map.1 hc
          exact signOf_in b
        generalize (bs.take i).map signOf = L at hcv hLl hLc hid
        obtain ⟨S, hS⟩ : ∃ S : ByteArray, S = ⟨L.toArray⟩ := ⟨_, rfl⟩
        rw [← hS] at hcv
        have hSd : S.data.toList = L := by rw [hS, of_arr]
        have hsz : S.size = L.length := by rw [hS]; simp [ByteArray.size]
        obtain ⟨m, hm⟩ : ∃ m, m = L.length := ⟨_, rfl⟩
        rw [← hm] at hsz
        obtain ⟨f, hf⟩ : ∃ f, f = C % (m + 1) := ⟨_, rfl⟩
        have hfm : f ≤ m := by rw [hf]; have := Nat.mod_lt C (show 0 < m + 1 by omega); omega
        have ef : (C : Int) % ((m : Int) + 1) = (f : Int) := by rw [hf]; rfl
        have hm0 : m ≤ 100 := by omega
        have hm1 : (m : Int) ≤ 100 := by omega
        have hm2 : (0 : Int) ≤ (m : Int) := by omega
        have hnz : ¬ ((m : Int) + 1 = 0) := by omega
        have ff1 : (0 : Int) ≤ (f : Int) := by omega
        have ff2 : (f : Int) ≤ (m : Int) := by omega
        have hfr : (S.extract 0 f).data.toList = L.take f := by rw [hS]; simp [ByteArray.data_extract]
        have HSd := Lib.hid hSd
        have Hfr := Lib.hid hfr
        have Hm := Lib.hid hm
        have HBw := Lib.hid (up HB1.out hid.out.2)
        clear hS hf hSd hfr hm
        rcases prs_signs L hLc hLl with ⟨x, p1, p2, p3, p4, p5, p6⟩ | p1
        · obtain ⟨y, hy⟩ := p6 f
          obtain ⟨sx, px, cx, -⟩ := good_is p2
          have HPX := Lib.hid (prs_prt x p2)
          have HP1 := Lib.hid (show prsV S.data.toList = (x, 0) by rw [HSd.out]; exact p1)
          have HY := Lib.hid (show prsV (S.extract 0 f).data.toList = (y, 0) by rw [Hfr.out]; exact hy)
          have HP3 := Lib.hid p3
          have HP4 := Lib.hid p4
          have HP5 := Lib.hid p5
          clear p1 p2 p3 p4 p5 p6 hy
          go_wp2_with fail
          refine (parse_any S _).mono ?_
          rw [HP1.out]
          dsimp only
          rintro e2 w2 ⟨v2, rfl, h2, hb2⟩
          obtain ⟨A2, c2, rfl⟩ := h2.1.form
          obtain ⟨lx, hlx⟩ : ∃ lx, x.length = lx := ⟨_, rfl⟩
          rw [hlx] at h2 ⊢
          have H2 := Lib.hid h2.1
          clear h2
          go_wp2_with fail
          refine (parse_any (S.extract 0 f) _).mono ?_
          rw [HY.out]
          dsimp only
          rintro e3 w3 ⟨v3, rfl, h3, hb3⟩
          obtain ⟨A3, c3, rfl⟩ := h3.1.form
          clear h3
          generalize y.length = ly
          have H3 := Lib.hid (H2.out.keep hb3)
          have HT3 := Lib.hid (((HT.out.keep HBw.out).keep hb2).keep hb3)
          have HB3 := Lib.hid (up HBw.out (up hb2 hb3))
          clear hb2 hb3
          go_wp2_with fail
          refine (print_any _ x _ H3.out sx HT3.out).mono ?_
          rw [px, cx]
          rintro e4 w4 ⟨rfl, hb4⟩
          obtain ⟨T, hT⟩ : ∃ T : ByteArray, T = ⟨(prtL x).toArray⟩ := ⟨_, rfl⟩
          rw [← hT] at px ⊢
          have hTd : T.data.toList = prtL x := by rw [hT, of_arr]
          have hTz : T.size = (prtL x).length := by rw [hT]; simp [ByteArray.size]
          have hle : T.size ≤ m := by rw [hTz, Hm.out]; exact HP3.out
          obtain ⟨q, hq⟩ : ∃ q, q = T.size := ⟨_, rfl⟩
          rw [← hq] at hle
          have hq2 : T.size = q := hq.symm
          have n59 : Lib.countByte T.data.toList 59 = Lib.countByte S.data.toList 59 := by unfold Lib.countByte; rw [hTd, HSd.out]; exact HP4.out
          have n58 : Lib.countByte T.data.toList 58 = Lib.countByte S.data.toList 58 := by unfold Lib.countByte; rw [hTd, HSd.out]; exact HP5.out
          have N59 := Lib.hid n59
          have N58 := Lib.hid n58
          have XX := Lib.hid (show prsV T.data.toList = (x, 0) by rw [hTd]; exact HPX.out)
          clear hT hTd hTz hq n59 n58 px
          go_wp2_with fail
          refine (parse_any T _).mono ?_
          rw [XX.out]
          dsimp only
          rintro e5 w5 ⟨v5, rfl, h5, hb5⟩
          obtain ⟨A5, c5, rfl⟩ := h5.1.form
          rw [hlx] at h5 ⊢
          have H5 := Lib.hid h5.1
          clear h5
          go_wp2_with fail
          refine (check_any _ x _ ((H3.out.keep hb4).keep hb5) sx.1 sx.2).mono ?_
          rw [cx]
          rintro e6 w6 ⟨rfl, hb6⟩
          go_wp2_with fail
          refine (rsame_any _ _ x x _ (H5.out.keep hb6) (((H3.out.keep hb4).keep hb5).keep hb6) sx.1 sx.2 sx.2).mono ?_
          rw [decide_eq_true rfl]
          rintro e7 w7 ⟨rfl, hb7⟩
          have HB7 := Lib.hid (up HB3.out (up hb4 (up hb5 (up hb6 hb7))))
          clear hb4 hb5 hb6 hb7
          go_wp2_with fail
          refine (Tryd.strings_Count_one T 59 _).mono ?_
          rw [N59.out]
          rintro e8 w8 ⟨rfl, rfl⟩
          go_wp2_with fail
          refine (Tryd.strings_Count_one S 59 _).mono ?_
          rintro e9 w9 ⟨rfl, rfl⟩
          go_wp2_with fail
          refine (Tryd.strings_Count_one T 58 _).mono ?_
          rw [N58.out]
          rintro e10 w10 ⟨rfl, rfl⟩
          go_wp2_with fail
          refine (Tryd.strings_Count_one S 58 _).mono ?_
          rintro e11 w11 ⟨rfl, rfl⟩
          go_wp2
          go_ret
          exact ⟨rfl, HB7.out⟩
        · have HP1 := Lib.hid (show prsV S.data.toList = ([], 3) by rw [HSd.out]; exact p1)
          clear p1
          go_wp2_with fail
          refine (parse_any S _).mono ?_
          rw [HP1.out]
          dsimp only
          rintro e2 w2 ⟨v2, rfl, h2, hb2⟩
          obtain ⟨A2, c2, rfl⟩ := h2.1.form
          rw [show ([] : List (List Int)).length = 0 from rfl]
          clear h2
          go_wp2_with fail
          refine (parse_any (S.extract 0 f) _).mono ?_
          rintro e3 w3 ⟨v3, rfl, h3, hb3⟩
          obtain ⟨A3, c3, rfl⟩ := h3.1.form
          clear h3
          generalize (prsV (S.extract 0 f).data.toList).1.length = ly
          generalize (prsV (S.extract 0 f).data.toList).2 = re
          go_wp2
          go_ret
          exact ⟨rfl, up HBw.out (up hb2 hb3)⟩
    · have c1 : decide ((i : Int) < (n : Int)) = false := decide_eq_false (by omega)
      have hcv := str_back hid.out.1
      have hLl : ((bs.take i).map signOf).length ≤ 100 := by rw [List.length_map, List.length_take]; omega
      have hLc : ∀ c ∈ (bs.take i).map signOf, 48 ≤ c.toNat ∧ c.toNat ≤ 59 := fun c hc => by
        obtain ⟨b, _, rfl⟩ := List.mem_map.1 hc
        exact signOf_in b
      generalize (bs.take i).map signOf = L at hcv hLl hLc hid
      obtain ⟨S, hS⟩ : ∃ S : ByteArray, S = ⟨L.toArray⟩ := ⟨_, rfl⟩
      rw [← hS] at hcv
      have hSd : S.data.toList = L := by rw [hS, of_arr]
      have hsz : S.size = L.length := by rw [hS]; simp [ByteArray.size]
      obtain ⟨m, hm⟩ : ∃ m, m = L.length := ⟨_, rfl⟩
      rw [← hm] at hsz
      obtain ⟨f, hf⟩ : ∃ f, f = C % (m + 1) := ⟨_, rfl⟩
      have hfm : f ≤ m := by rw [hf]; have := Nat.mod_lt C (show 0 < m + 1 by omega); omega
      have ef : (C : Int) % ((m : Int) + 1) = (f : Int) := by rw [hf]; rfl
      have hm0 : m ≤ 100 := by omega
      have hm1 : (m : Int) ≤ 100 := by omega
      have hm2 : (0 : Int) ≤ (m : Int) := by omega
      have hnz : ¬ ((m : Int) + 1 = 0) := by omega
      have ff1 : (0 : Int) ≤ (f : Int) := by omega
      have ff2 : (f : Int) ≤ (m : Int) := by omega
      have hfr : (S.extract 0 f).data.toList = L.take f := by rw [hS]; simp [ByteArray.data_extract]
      have HSd := Lib.hid hSd
      have Hfr := Lib.hid hfr
      have Hm := Lib.hid hm
      have HBw := Lib.hid (up HB1.out hid.out.2)
      clear hS hf hSd hfr hm
      rcases prs_signs L hLc hLl with ⟨x, p1, p2, p3, p4, p5, p6⟩ | p1
      · obtain ⟨y, hy⟩ := p6 f
        obtain ⟨sx, px, cx, -⟩ := good_is p2
        have HPX := Lib.hid (prs_prt x p2)
        have HP1 := Lib.hid (show prsV S.data.toList = (x, 0) by rw [HSd.out]; exact p1)
        have HY := Lib.hid (show prsV (S.extract 0 f).data.toList = (y, 0) by rw [Hfr.out]; exact hy)
        have HP3 := Lib.hid p3
        have HP4 := Lib.hid p4
        have HP5 := Lib.hid p5
        clear p1 p2 p3 p4 p5 p6 hy
        go_wp2_with fail
        refine (parse_any S _).mono ?_
        rw [HP1.out]
        dsimp only
        rintro e2 w2 ⟨v2, rfl, h2, hb2⟩
        obtain ⟨A2, c2, rfl⟩ := h2.1.form
        obtain ⟨lx, hlx⟩ : ∃ lx, x.length = lx := ⟨_, rfl⟩
        rw [hlx] at h2 ⊢
        have H2 := Lib.hid h2.1
        clear h2
        go_wp2_with fail
        refine (parse_any (S.extract 0 f) _).mono ?_
        rw [HY.out]
        dsimp only
        rintro e3 w3 ⟨v3, rfl, h3, hb3⟩
        obtain ⟨A3, c3, rfl⟩ := h3.1.form
        clear h3
        generalize y.length = ly
        have H3 := Lib.hid (H2.out.keep hb3)
        have HT3 := Lib.hid (((HT.out.keep HBw.out).keep hb2).keep hb3)
        have HB3 := Lib.hid (up HBw.out (up hb2 hb3))
        clear hb2 hb3
        go_wp2_with fail
        refine (print_any _ x _ H3.out sx HT3.out).mono ?_
        rw [px, cx]
        rintro e4 w4 ⟨rfl, hb4⟩
        obtain ⟨T, hT⟩ : ∃ T : ByteArray, T = ⟨(prtL x).toArray⟩ := ⟨_, rfl⟩
        rw [← hT] at px ⊢
        have hTd : T.data.toList = prtL x := by rw [hT, of_arr]
        have hTz : T.size = (prtL x).length := by rw [hT]; simp [ByteArray.size]
        have hle : T.size ≤ m := by rw [hTz, Hm.out]; exact HP3.out
        obtain ⟨q, hq⟩ : ∃ q, q = T.size := ⟨_, rfl⟩
        rw [← hq] at hle
        have hq2 : T.size = q := hq.symm
        have n59 : Lib.countByte T.data.toList 59 = Lib.countByte S.data.toList 59 := by unfold Lib.countByte; rw [hTd, HSd.out]; exact HP4.out
        have n58 : Lib.countByte T.data.toList 58 = Lib.countByte S.data.toList 58 := by unfold Lib.countByte; rw [hTd, HSd.out]; exact HP5.out
        have N59 := Lib.hid n59
        have N58 := Lib.hid n58
        have XX := Lib.hid (show prsV T.data.toList = (x, 0) by rw [hTd]; exact HPX.out)
        clear hT hTd hTz hq n59 n58 px
        go_wp2_with fail
        refine (parse_any T _).mono ?_
        rw [XX.out]
        dsimp only
        rintro e5 w5 ⟨v5, rfl, h5, hb5⟩
        obtain ⟨A5, c5, rfl⟩ := h5.1.form
        rw [hlx] at h5 ⊢
        have H5 := Lib.hid h5.1
        clear h5
        go_wp2_with fail
        refine (check_any _ x _ ((H3.out.keep hb4).keep hb5) sx.1 sx.2).mono ?_
        rw [cx]
        rintro e6 w6 ⟨rfl, hb6⟩
        go_wp2_with fail
        refine (rsame_any _ _ x x _ (H5.out.keep hb6) (((H3.out.keep hb4).keep hb5).keep hb6) sx.1 sx.2 sx.2).mono ?_
        rw [decide_eq_true rfl]
        rintro e7 w7 ⟨rfl, hb7⟩
        have HB7 := Lib.hid (up HB3.out (up hb4 (up hb5 (up hb6 hb7))))
        clear hb4 hb5 hb6 hb7
        go_wp2_with fail
        refine (Tryd.strings_Count_one T 59 _).mono ?_
        rw [N59.out]
        rintro e8 w8 ⟨rfl, rfl⟩
        go_wp2_with fail
        refine (Tryd.strings_Count_one S 59 _).mono ?_
        rintro e9 w9 ⟨rfl, rfl⟩
        go_wp2_with fail
        refine (Tryd.strings_Count_one T 58 _).mono ?_
        rw [N58.out]
        rintro e10 w10 ⟨rfl, rfl⟩
        go_wp2_with fail
        refine (Tryd.strings_Count_one S 58 _).mono ?_
        rintro e11 w11 ⟨rfl, rfl⟩
        go_wp2
        go_ret
        exact ⟨rfl, HB7.out⟩
      · have HP1 := Lib.hid (show prsV S.data.toList = ([], 3) by rw [HSd.out]; exact p1)
        clear p1
        go_wp2_with fail
        refine (parse_any S _).mono ?_
        rw [HP1.out]
        dsimp only
        rintro e2 w2 ⟨v2, rfl, h2, hb2⟩
        obtain ⟨A2, c2, rfl⟩ := h2.1.form
        rw [show ([] : List (List Int)).length = 0 from rfl]
        clear h2
        go_wp2_with fail
        refine (parse_any (S.extract 0 f) _).mono ?_
        rintro e3 w3 ⟨v3, rfl, h3, hb3⟩
        obtain ⟨A3, c3, rfl⟩ := h3.1.form
        clear h3
        generalize (prsV (S.extract 0 f).data.toList).1.length = ly
        generalize (prsV (S.extract 0 f).data.toList).2 = re
        go_wp2
        go_ret
        exact ⟨rfl, up HBw.out (up hb2 hb3)⟩
end Go.Proofs.YtelglcchcpnfbaaDoor.Par
