/-
  The walk of the law WidthSums: it returns true, whatever its arguments; nothing that lay before the call has turned.
-/
import Derived.Test.YtneikcpejejagaaDoorWidF
namespace Go.Proofs.YtneikcpejejagaaDoor.Wid
open Go.RowKit Utf

theorem min_50 (n : Nat) (h : (n : Int) ≤ 50) : (if (50 : Int) < (n : Int) then (50 : Int) else (n : Int)) = (n : Int) := by rw [if_neg (by omega)]
attribute [local go_sem] min_50
theorem text_sz (l : List Int) (n : Nat) (h : l.length ≤ n) : (⟨(textL l).toArray⟩ : ByteArray).size ≤ 4 * n := by
  have h1 := textL_len l
  show (textL l).toArray.size ≤ _
  rw [List.size_toArray]
  omega
theorem cols_of (l : List Int) (q : ByteArray) (hq : q.data.toList = textL l) : colsL (codesL q.data.toList) = colsL (l.map rep) := by rw [hq, codes_text]
theorem cols_of2 (l m : List Int) (q r : ByteArray) (hq : q.data.toList = textL l) (hr : r.data.toList = textL m) : colsL (codesL (q ++ r).data.toList) = colsL (l.map rep) + colsL (m.map rep) := by
  rw [ByteArray.data_append, Array.toList_append, hq, hr, ← textL_app, codes_text, List.map_append, colsL_app]

set_option maxRecDepth 100000 in
set_option maxHeartbeats 8000000 in
theorem sums_any (A B : Option Addr) (n m c d : Nat) (xs ys : List Int) (w : World) (h : Tb w) (hx : Rd w A (cI xs)) (hy : Rd w B (cI ys)) (hn : xs.length = n) (hn2 : ys.length = m) (hc : n ≤ c) (hd : m ≤ d) (hcb : c ≤ 9223372036854775807) (hdb : d ≤ 9223372036854775807) :
    Calls Tryd.prog 6 #[.slice A n c, .slice B m d] w fun e w' => e = .returned (.bool true) ∧ Below w.heap.size w w' := by
  have H := Lib.hid h; clear h
  have HX := Lib.hid hx; clear hx
  have HY := Lib.hid hy; clear hy
  have Hn := Lib.hid hn; clear hn
  have Hm := Lib.hid hn2; clear hn2
  rcases (show (n ≤ 50) ∨ (50 < n) by omega) with h1 | h1 <;> rcases (show (m ≤ 50) ∨ (50 < m) by omega) with h2 | h2
  · have a1 : (0 : Int) ≤ (n : Int) := by omega
    have a2 : (n : Int) ≤ (c : Int) := by omega
    have a3 : (0 : Int) ≤ (m : Int) := by omega
    have a4 : (m : Int) ≤ (d : Int) := by omega
    have a5 : (50 : Int) ≤ (c : Int) ∨ (n : Int) ≤ 50 := by omega
    have b1 : (n : Int) ≤ 50 := by omega
    have b2 : (m : Int) ≤ 50 := by omega
    have c1 : (n : Int) ≤ (c : Int) := by omega
    have c2 : (m : Int) ≤ (d : Int) := by omega
    clear a5
    go_enter Tryd.func6, Tryd.ntmps6
    go_wp2_with fail
    refine (works_any _ H.out).mono ?_
    rintro e w1 ⟨rfl, hb1⟩
    go_wp2_with fail
    obtain ⟨P, hP⟩ : ∃ P, xs.take n = P := ⟨_, rfl⟩
    obtain ⟨R, hR⟩ : ∃ R, ys.take m = R := ⟨_, rfl⟩
    have RX := Lib.hid (show Rd w1 A (cI P) by rw [← hP]; exact rd_take ((HX.out).below hb1) _)
    have RY := Lib.hid (show Rd w1 B (cI R) by rw [← hR]; exact rd_take ((HY.out).below hb1) _)
    have LX := Lib.hid (show P.length = n by rw [← hP, List.length_take, Hn.out]; omega)
    have LY := Lib.hid (show R.length = m by rw [← hR, List.length_take, Hm.out]; omega)
    clear hP hR HX HY
    have HM := Lib.hid ((H.out).keep hb1).1
    have hG : Below w1.heap.size w1 w1.drew := (Below.refl _ w1).drew
    go_region_held3 (fun _ => True) (trivial) (first
      | (go_at_call 15; ((with_reducible refine (text_of A c n P LX.out _ (by exact (RX.out).below hG) (by exact (HM.out).keep hG) (by rw [LX.out]; omega)).mono ?_); (rintro e wA ⟨rfl, hbA⟩; have hG := hG.trans (hbA.mono hG.size))))
      | (go_at_call 15; ((with_reducible refine (text_of B d m R LY.out _ (by exact (RY.out).below hG) (by exact (HM.out).keep hG) (by rw [LY.out]; omega)).mono ?_); (rintro e wA ⟨rfl, hbA⟩; have hG := hG.trans (hbA.mono hG.size)))))
    all_goals
      have hb2 := hb1.trans (hG.mono hb1.size)
      have hP50 : P.length ≤ 50 := by rw [LX.out]; omega
      have hR50 : R.length ≤ 50 := by rw [LY.out]; omega
      have z1 := text_sz P 50 hP50
      have z2 := text_sz R 50 hR50
      obtain ⟨q, hq⟩ : ∃ q : ByteArray, (⟨(textL P).toArray⟩ : ByteArray) = q := ⟨_, rfl⟩
      obtain ⟨r, hr⟩ : ∃ r : ByteArray, (⟨(textL R).toArray⟩ : ByteArray) = r := ⟨_, rfl⟩
      have Hq := Lib.hid (show q.data.toList = textL P by rw [← hq])
      have Hr := Lib.hid (show r.data.toList = textL R by rw [← hr])
      have z3 : (textL P).length = q.size := by rw [← hq]; rfl
      rw [hq] at z1 ⊢
      rw [hr] at z2 ⊢
      clear hq hr
      have y1 := colsL_bd (P.map rep)
      have y2 := colsL_bd (R.map rep)
      have y3 := cols_text P
      rw [List.length_map] at y1 y2
      have E1 := Lib.hid (cols_of P q Hq.out)
      have E2 := Lib.hid (cols_of R r Hr.out)
      have E3 := Lib.hid (cols_of2 P R q r Hq.out Hr.out)
      have E4 := Lib.hid (show (codesL q.data.toList).length = P.length by rw [Hq.out, codes_text, List.length_map])
      have z4 : (q ++ r).size ≤ 400 := by rw [ByteArray.size_append]; omega
      obtain ⟨u, hu⟩ : ∃ u, colsL (P.map rep) = u := ⟨_, rfl⟩
      obtain ⟨v, hv⟩ : ∃ v, colsL (R.map rep) = v := ⟨_, rfl⟩
      rw [hu] at y1 y3 E1 E3
      rw [hv] at y2 E2 E3
      have y4 : u ≤ (q.size : Int) := by omega
      have y5 : 0 ≤ v := y2.1
      have y6 : v ≤ 100 := by omega
      have y7 : 0 ≤ u := y1.1
      have y8 : u ≤ 100 := by omega
      obtain ⟨pl, hpl⟩ : ∃ pl, P.length = pl := ⟨_, rfl⟩
      rw [hpl] at E4 y1 hP50
      have y9 : u ≤ 2 * (pl : Int) := y1.2
      clear hu hv hb1 hG z3 y3 RX RY LX LY HM h1 h2 a1 a2 a3 a4 b1 b2 c1 c2 hc hd hcb hdb Hq Hr hR50 hpl y1 y2
      go_wp2_with fail
      refine (wtext_is q u E1.out _ ((H.out).keep hb2) (by omega)).mono ?_
      rintro e w3 ⟨rfl, hb3⟩
      have hb4 := hb2.trans (hb3.mono hb2.size)
      clear hb3 hb2
      go_wp2_with fail
      refine (wtext_is (q ++ r) (u + v) E3.out _ ((H.out).keep hb4) (by omega)).mono ?_
      rintro e w4 ⟨rfl, hb5⟩
      have hb6 := hb4.trans (hb5.mono hb4.size)
      clear hb5 hb4
      go_wp2_with fail
      refine (wtext_is r v E2.out _ ((H.out).keep hb6) (by omega)).mono ?_
      rintro e w5 ⟨rfl, hb7⟩
      have hb8 := hb6.trans (hb7.mono hb6.size)
      clear hb7 hb6
      go_wp2_with fail
      refine (codes_any q _ ((H.out).keep hb8).1 (by omega)).mono ?_
      rintro e w6 ⟨vv, rfl, hown, hb9⟩
      obtain ⟨A9, c9, hv9, _, _⟩ := own_slice hown
      rw [hv9, E4.out]
      have hb10 := hb8.trans (hb9.mono hb8.size)
      clear hb8 hb9 hown hv9
      go_wp2
      go_ret
      exact ⟨rfl, hb10⟩
  · have a1 : (0 : Int) ≤ (n : Int) := by omega
    have a2 : (n : Int) ≤ (c : Int) := by omega
    have a3 : (0 : Int) ≤ (m : Int) := by omega
    have a4 : (m : Int) ≤ (d : Int) := by omega
    have a5 : (50 : Int) ≤ (c : Int) ∨ (n : Int) ≤ 50 := by omega
    have b1 : (n : Int) ≤ 50 := by omega
    have b2 : (50 : Int) < (m : Int) := by omega
    have c1 : (n : Int) ≤ (c : Int) := by omega
    have c2 : (50 : Int) ≤ (d : Int) := by omega
    clear a5
    go_enter Tryd.func6, Tryd.ntmps6
    go_wp2_with fail
    refine (works_any _ H.out).mono ?_
    rintro e w1 ⟨rfl, hb1⟩
    go_wp2_with fail
    obtain ⟨P, hP⟩ : ∃ P, xs.take n = P := ⟨_, rfl⟩
    obtain ⟨R, hR⟩ : ∃ R, ys.take 50 = R := ⟨_, rfl⟩
    have RX := Lib.hid (show Rd w1 A (cI P) by rw [← hP]; exact rd_take ((HX.out).below hb1) _)
    have RY := Lib.hid (show Rd w1 B (cI R) by rw [← hR]; exact rd_take ((HY.out).below hb1) _)
    have LX := Lib.hid (show P.length = n by rw [← hP, List.length_take, Hn.out]; omega)
    have LY := Lib.hid (show R.length = 50 by rw [← hR, List.length_take, Hm.out]; omega)
    clear hP hR HX HY
    have HM := Lib.hid ((H.out).keep hb1).1
    have hG : Below w1.heap.size w1 w1.drew := (Below.refl _ w1).drew
    go_region_held3 (fun _ => True) (trivial) (first
      | (go_at_call 15; ((with_reducible refine (text_of A c n P LX.out _ (by exact (RX.out).below hG) (by exact (HM.out).keep hG) (by rw [LX.out]; omega)).mono ?_); (rintro e wA ⟨rfl, hbA⟩; have hG := hG.trans (hbA.mono hG.size))))
      | (go_at_call 15; ((with_reducible refine (text_of B d 50 R LY.out _ (by exact (RY.out).below hG) (by exact (HM.out).keep hG) (by rw [LY.out]; omega)).mono ?_); (rintro e wA ⟨rfl, hbA⟩; have hG := hG.trans (hbA.mono hG.size)))))
    all_goals
      have hb2 := hb1.trans (hG.mono hb1.size)
      have hP50 : P.length ≤ 50 := by rw [LX.out]; omega
      have hR50 : R.length ≤ 50 := by rw [LY.out]; omega
      have z1 := text_sz P 50 hP50
      have z2 := text_sz R 50 hR50
      obtain ⟨q, hq⟩ : ∃ q : ByteArray, (⟨(textL P).toArray⟩ : ByteArray) = q := ⟨_, rfl⟩
      obtain ⟨r, hr⟩ : ∃ r : ByteArray, (⟨(textL R).toArray⟩ : ByteArray) = r := ⟨_, rfl⟩
      have Hq := Lib.hid (show q.data.toList = textL P by rw [← hq])
      have Hr := Lib.hid (show r.data.toList = textL R by rw [← hr])
      have z3 : (textL P).length = q.size := by rw [← hq]; rfl
      rw [hq] at z1 ⊢
      rw [hr] at z2 ⊢
      clear hq hr
      have y1 := colsL_bd (P.map rep)
      have y2 := colsL_bd (R.map rep)
      have y3 := cols_text P
      rw [List.length_map] at y1 y2
      have E1 := Lib.hid (cols_of P q Hq.out)
      have E2 := Lib.hid (cols_of R r Hr.out)
      have E3 := Lib.hid (cols_of2 P R q r Hq.out Hr.out)
      have E4 := Lib.hid (show (codesL q.data.toList).length = P.length by rw [Hq.out, codes_text, List.length_map])
      have z4 : (q ++ r).size ≤ 400 := by rw [ByteArray.size_append]; omega
      obtain ⟨u, hu⟩ : ∃ u, colsL (P.map rep) = u := ⟨_, rfl⟩
      obtain ⟨v, hv⟩ : ∃ v, colsL (R.map rep) = v := ⟨_, rfl⟩
      rw [hu] at y1 y3 E1 E3
      rw [hv] at y2 E2 E3
      have y4 : u ≤ (q.size : Int) := by omega
      have y5 : 0 ≤ v := y2.1
      have y6 : v ≤ 100 := by omega
      have y7 : 0 ≤ u := y1.1
      have y8 : u ≤ 100 := by omega
      obtain ⟨pl, hpl⟩ : ∃ pl, P.length = pl := ⟨_, rfl⟩
      rw [hpl] at E4 y1 hP50
      have y9 : u ≤ 2 * (pl : Int) := y1.2
      clear hu hv hb1 hG z3 y3 RX RY LX LY HM h1 h2 a1 a2 a3 a4 b1 b2 c1 c2 hc hd hcb hdb Hq Hr hR50 hpl y1 y2
      go_wp2_with fail
      refine (wtext_is q u E1.out _ ((H.out).keep hb2) (by omega)).mono ?_
      rintro e w3 ⟨rfl, hb3⟩
      have hb4 := hb2.trans (hb3.mono hb2.size)
      clear hb3 hb2
      go_wp2_with fail
      refine (wtext_is (q ++ r) (u + v) E3.out _ ((H.out).keep hb4) (by omega)).mono ?_
      rintro e w4 ⟨rfl, hb5⟩
      have hb6 := hb4.trans (hb5.mono hb4.size)
      clear hb5 hb4
      go_wp2_with fail
      refine (wtext_is r v E2.out _ ((H.out).keep hb6) (by omega)).mono ?_
      rintro e w5 ⟨rfl, hb7⟩
      have hb8 := hb6.trans (hb7.mono hb6.size)
      clear hb7 hb6
      go_wp2_with fail
      refine (codes_any q _ ((H.out).keep hb8).1 (by omega)).mono ?_
      rintro e w6 ⟨vv, rfl, hown, hb9⟩
      obtain ⟨A9, c9, hv9, _, _⟩ := own_slice hown
      rw [hv9, E4.out]
      have hb10 := hb8.trans (hb9.mono hb8.size)
      clear hb8 hb9 hown hv9
      go_wp2
      go_ret
      exact ⟨rfl, hb10⟩
  · have a1 : (0 : Int) ≤ (n : Int) := by omega
    have a2 : (n : Int) ≤ (c : Int) := by omega
    have a3 : (0 : Int) ≤ (m : Int) := by omega
    have a4 : (m : Int) ≤ (d : Int) := by omega
    have a5 : (50 : Int) ≤ (c : Int) ∨ (n : Int) ≤ 50 := by omega
    have b1 : (50 : Int) < (n : Int) := by omega
    have b2 : (m : Int) ≤ 50 := by omega
    have c1 : (50 : Int) ≤ (c : Int) := by omega
    have c2 : (m : Int) ≤ (d : Int) := by omega
    clear a5
    go_enter Tryd.func6, Tryd.ntmps6
    go_wp2_with fail
    refine (works_any _ H.out).mono ?_
    rintro e w1 ⟨rfl, hb1⟩
    go_wp2_with fail
    obtain ⟨P, hP⟩ : ∃ P, xs.take 50 = P := ⟨_, rfl⟩
    obtain ⟨R, hR⟩ : ∃ R, ys.take m = R := ⟨_, rfl⟩
    have RX := Lib.hid (show Rd w1 A (cI P) by rw [← hP]; exact rd_take ((HX.out).below hb1) _)
    have RY := Lib.hid (show Rd w1 B (cI R) by rw [← hR]; exact rd_take ((HY.out).below hb1) _)
    have LX := Lib.hid (show P.length = 50 by rw [← hP, List.length_take, Hn.out]; omega)
    have LY := Lib.hid (show R.length = m by rw [← hR, List.length_take, Hm.out]; omega)
    clear hP hR HX HY
    have HM := Lib.hid ((H.out).keep hb1).1
    have hG : Below w1.heap.size w1 w1.drew := (Below.refl _ w1).drew
    go_region_held3 (fun _ => True) (trivial) (first
      | (go_at_call 15; ((with_reducible refine (text_of A c 50 P LX.out _ (by exact (RX.out).below hG) (by exact (HM.out).keep hG) (by rw [LX.out]; omega)).mono ?_); (rintro e wA ⟨rfl, hbA⟩; have hG := hG.trans (hbA.mono hG.size))))
      | (go_at_call 15; ((with_reducible refine (text_of B d m R LY.out _ (by exact (RY.out).below hG) (by exact (HM.out).keep hG) (by rw [LY.out]; omega)).mono ?_); (rintro e wA ⟨rfl, hbA⟩; have hG := hG.trans (hbA.mono hG.size)))))
    all_goals
      have hb2 := hb1.trans (hG.mono hb1.size)
      have hP50 : P.length ≤ 50 := by rw [LX.out]; omega
      have hR50 : R.length ≤ 50 := by rw [LY.out]; omega
      have z1 := text_sz P 50 hP50
      have z2 := text_sz R 50 hR50
      obtain ⟨q, hq⟩ : ∃ q : ByteArray, (⟨(textL P).toArray⟩ : ByteArray) = q := ⟨_, rfl⟩
      obtain ⟨r, hr⟩ : ∃ r : ByteArray, (⟨(textL R).toArray⟩ : ByteArray) = r := ⟨_, rfl⟩
      have Hq := Lib.hid (show q.data.toList = textL P by rw [← hq])
      have Hr := Lib.hid (show r.data.toList = textL R by rw [← hr])
      have z3 : (textL P).length = q.size := by rw [← hq]; rfl
      rw [hq] at z1 ⊢
      rw [hr] at z2 ⊢
      clear hq hr
      have y1 := colsL_bd (P.map rep)
      have y2 := colsL_bd (R.map rep)
      have y3 := cols_text P
      rw [List.length_map] at y1 y2
      have E1 := Lib.hid (cols_of P q Hq.out)
      have E2 := Lib.hid (cols_of R r Hr.out)
      have E3 := Lib.hid (cols_of2 P R q r Hq.out Hr.out)
      have E4 := Lib.hid (show (codesL q.data.toList).length = P.length by rw [Hq.out, codes_text, List.length_map])
      have z4 : (q ++ r).size ≤ 400 := by rw [ByteArray.size_append]; omega
      obtain ⟨u, hu⟩ : ∃ u, colsL (P.map rep) = u := ⟨_, rfl⟩
      obtain ⟨v, hv⟩ : ∃ v, colsL (R.map rep) = v := ⟨_, rfl⟩
      rw [hu] at y1 y3 E1 E3
      rw [hv] at y2 E2 E3
      have y4 : u ≤ (q.size : Int) := by omega
      have y5 : 0 ≤ v := y2.1
      have y6 : v ≤ 100 := by omega
      have y7 : 0 ≤ u := y1.1
      have y8 : u ≤ 100 := by omega
      obtain ⟨pl, hpl⟩ : ∃ pl, P.length = pl := ⟨_, rfl⟩
      rw [hpl] at E4 y1 hP50
      have y9 : u ≤ 2 * (pl : Int) := y1.2
      clear hu hv hb1 hG z3 y3 RX RY LX LY HM h1 h2 a1 a2 a3 a4 b1 b2 c1 c2 hc hd hcb hdb Hq Hr hR50 hpl y1 y2
      go_wp2_with fail
      refine (wtext_is q u E1.out _ ((H.out).keep hb2) (by omega)).mono ?_
      rintro e w3 ⟨rfl, hb3⟩
      have hb4 := hb2.trans (hb3.mono hb2.size)
      clear hb3 hb2
      go_wp2_with fail
      refine (wtext_is (q ++ r) (u + v) E3.out _ ((H.out).keep hb4) (by omega)).mono ?_
      rintro e w4 ⟨rfl, hb5⟩
      have hb6 := hb4.trans (hb5.mono hb4.size)
      clear hb5 hb4
      go_wp2_with fail
      refine (wtext_is r v E2.out _ ((H.out).keep hb6) (by omega)).mono ?_
      rintro e w5 ⟨rfl, hb7⟩
      have hb8 := hb6.trans (hb7.mono hb6.size)
      clear hb7 hb6
      go_wp2_with fail
      refine (codes_any q _ ((H.out).keep hb8).1 (by omega)).mono ?_
      rintro e w6 ⟨vv, rfl, hown, hb9⟩
      obtain ⟨A9, c9, hv9, _, _⟩ := own_slice hown
      rw [hv9, E4.out]
      have hb10 := hb8.trans (hb9.mono hb8.size)
      clear hb8 hb9 hown hv9
      go_wp2
      go_ret
      exact ⟨rfl, hb10⟩
  · have a1 : (0 : Int) ≤ (n : Int) := by omega
    have a2 : (n : Int) ≤ (c : Int) := by omega
    have a3 : (0 : Int) ≤ (m : Int) := by omega
    have a4 : (m : Int) ≤ (d : Int) := by omega
    have a5 : (50 : Int) ≤ (c : Int) ∨ (n : Int) ≤ 50 := by omega
    have b1 : (50 : Int) < (n : Int) := by omega
    have b2 : (50 : Int) < (m : Int) := by omega
    have c1 : (50 : Int) ≤ (c : Int) := by omega
    have c2 : (50 : Int) ≤ (d : Int) := by omega
    clear a5
    go_enter Tryd.func6, Tryd.ntmps6
    go_wp2_with fail
    refine (works_any _ H.out).mono ?_
    rintro e w1 ⟨rfl, hb1⟩
    go_wp2_with fail
    obtain ⟨P, hP⟩ : ∃ P, xs.take 50 = P := ⟨_, rfl⟩
    obtain ⟨R, hR⟩ : ∃ R, ys.take 50 = R := ⟨_, rfl⟩
    have RX := Lib.hid (show Rd w1 A (cI P) by rw [← hP]; exact rd_take ((HX.out).below hb1) _)
    have RY := Lib.hid (show Rd w1 B (cI R) by rw [← hR]; exact rd_take ((HY.out).below hb1) _)
    have LX := Lib.hid (show P.length = 50 by rw [← hP, List.length_take, Hn.out]; omega)
    have LY := Lib.hid (show R.length = 50 by rw [← hR, List.length_take, Hm.out]; omega)
    clear hP hR HX HY
    have HM := Lib.hid ((H.out).keep hb1).1
    have hG : Below w1.heap.size w1 w1.drew := (Below.refl _ w1).drew
    go_region_held3 (fun _ => True) (trivial) (first
      | (go_at_call 15; ((with_reducible refine (text_of A c 50 P LX.out _ (by exact (RX.out).below hG) (by exact (HM.out).keep hG) (by rw [LX.out]; omega)).mono ?_); (rintro e wA ⟨rfl, hbA⟩; have hG := hG.trans (hbA.mono hG.size))))
      | (go_at_call 15; ((with_reducible refine (text_of B d 50 R LY.out _ (by exact (RY.out).below hG) (by exact (HM.out).keep hG) (by rw [LY.out]; omega)).mono ?_); (rintro e wA ⟨rfl, hbA⟩; have hG := hG.trans (hbA.mono hG.size)))))
    all_goals
      have hb2 := hb1.trans (hG.mono hb1.size)
      have hP50 : P.length ≤ 50 := by rw [LX.out]; omega
      have hR50 : R.length ≤ 50 := by rw [LY.out]; omega
      have z1 := text_sz P 50 hP50
      have z2 := text_sz R 50 hR50
      obtain ⟨q, hq⟩ : ∃ q : ByteArray, (⟨(textL P).toArray⟩ : ByteArray) = q := ⟨_, rfl⟩
      obtain ⟨r, hr⟩ : ∃ r : ByteArray, (⟨(textL R).toArray⟩ : ByteArray) = r := ⟨_, rfl⟩
      have Hq := Lib.hid (show q.data.toList = textL P by rw [← hq])
      have Hr := Lib.hid (show r.data.toList = textL R by rw [← hr])
      have z3 : (textL P).length = q.size := by rw [← hq]; rfl
      rw [hq] at z1 ⊢
      rw [hr] at z2 ⊢
      clear hq hr
      have y1 := colsL_bd (P.map rep)
      have y2 := colsL_bd (R.map rep)
      have y3 := cols_text P
      rw [List.length_map] at y1 y2
      have E1 := Lib.hid (cols_of P q Hq.out)
      have E2 := Lib.hid (cols_of R r Hr.out)
      have E3 := Lib.hid (cols_of2 P R q r Hq.out Hr.out)
      have E4 := Lib.hid (show (codesL q.data.toList).length = P.length by rw [Hq.out, codes_text, List.length_map])
      have z4 : (q ++ r).size ≤ 400 := by rw [ByteArray.size_append]; omega
      obtain ⟨u, hu⟩ : ∃ u, colsL (P.map rep) = u := ⟨_, rfl⟩
      obtain ⟨v, hv⟩ : ∃ v, colsL (R.map rep) = v := ⟨_, rfl⟩
      rw [hu] at y1 y3 E1 E3
      rw [hv] at y2 E2 E3
      have y4 : u ≤ (q.size : Int) := by omega
      have y5 : 0 ≤ v := y2.1
      have y6 : v ≤ 100 := by omega
      have y7 : 0 ≤ u := y1.1
      have y8 : u ≤ 100 := by omega
      obtain ⟨pl, hpl⟩ : ∃ pl, P.length = pl := ⟨_, rfl⟩
      rw [hpl] at E4 y1 hP50
      have y9 : u ≤ 2 * (pl : Int) := y1.2
      clear hu hv hb1 hG z3 y3 RX RY LX LY HM h1 h2 a1 a2 a3 a4 b1 b2 c1 c2 hc hd hcb hdb Hq Hr hR50 hpl y1 y2
      go_wp2_with fail
      refine (wtext_is q u E1.out _ ((H.out).keep hb2) (by omega)).mono ?_
      rintro e w3 ⟨rfl, hb3⟩
      have hb4 := hb2.trans (hb3.mono hb2.size)
      clear hb3 hb2
      go_wp2_with fail
      refine (wtext_is (q ++ r) (u + v) E3.out _ ((H.out).keep hb4) (by omega)).mono ?_
      rintro e w4 ⟨rfl, hb5⟩
      have hb6 := hb4.trans (hb5.mono hb4.size)
      clear hb5 hb4
      go_wp2_with fail
      refine (wtext_is r v E2.out _ ((H.out).keep hb6) (by omega)).mono ?_
      rintro e w5 ⟨rfl, hb7⟩
      have hb8 := hb6.trans (hb7.mono hb6.size)
      clear hb7 hb6
      go_wp2_with fail
      refine (codes_any q _ ((H.out).keep hb8).1 (by omega)).mono ?_
      rintro e w6 ⟨vv, rfl, hown, hb9⟩
      obtain ⟨A9, c9, hv9, _, _⟩ := own_slice hown
      rw [hv9, E4.out]
      have hb10 := hb8.trans (hb9.mono hb8.size)
      clear hb8 hb9 hown hv9
      go_wp2
      go_ret
      exact ⟨rfl, hb10⟩
end Go.Proofs.YtneikcpejejagaaDoor.Wid
