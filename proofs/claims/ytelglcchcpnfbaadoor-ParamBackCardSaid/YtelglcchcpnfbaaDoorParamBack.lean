/-
  The walk of ParamBack.
-/
import Derived.Test.YtelglcchcpnfbaaDoorParN
import Derived.Test.YtelglcchcpnfbaaDoorParQ
import Derived.Test.YtelglcchcpnfbaaDoorParT
namespace Go.Proofs.YtelglcchcpnfbaaDoor.Par
open Go.RowKit Utf

set_option maxRecDepth 100000 in
set_option maxHeartbeats 8000000 in
theorem back_any (v u : Value) (ps qs : List UInt16) (ms ns : List UInt8) (w : World) (hv : DrR w v ps ms) (hu : DrR w u qs ns) (ht : Tab w) :
    Calls Tryd.prog 6 #[v, u] w fun e w' => e = .returned (.bool true) ∧ Below w.heap.size w w' := by
  have HT := Lib.hid ht; clear ht
  have Hv := Lib.hid hv
  have Hu := Lib.hid hu
  obtain ⟨A, n, c, B, m, e, rfl, -⟩ := hv
  obtain ⟨A', n', c', B', m', e', rfl, -⟩ := hu
  have hb0 : Below w.heap.size w ((w.alloc (.cells #[.slice A n c, .slice B m e] 26)).alloc (.cells #[.slice A' n' c', .slice B' m' e'] 26)) := up (below_box _ _) (below_box _ _)
  have hx1 := (Box.new w #[.slice A n c, .slice B m e] 26).alloc (.cells #[.slice A' n' c', .slice B' m' e'] 26)
  have hx2 := Box.new (w.alloc (.cells #[.slice A n c, .slice B m e] 26)) #[.slice A' n' c', .slice B' m' e'] 26
  rw [World.size_alloc] at hx2
  have HB0 := Lib.hid hb0; clear hb0
  have HX1 := Lib.hid hx1; clear hx1
  have HX2 := Lib.hid hx2; clear hx2
  go_enter Tryd.func6, Tryd.ntmps6
  go_wp2_with fail
  refine (works_any _ (HT.out.keep HB0.out)).mono ?_
  rintro e2 w2 ⟨rfl, hb2⟩
  have hy1 := HX1.out.keep hb2
  have hy2 := HX2.out.keep hb2
  have hbw : Below w.heap.size w w2 := up HB0.out hb2
  have HK := Lib.hid (show ∀ W, Below w2.heap.size w2 W → W.cell? ⟨w.heap.size, 0, none⟩ = some (.slice A n c) ∧ W.cell? ⟨w.heap.size, 1, none⟩ = some (.slice B m e) ∧ W.cell? ⟨w.heap.size + 1, 0, none⟩ = some (.slice A' n' c') ∧ W.cell? ⟨w.heap.size + 1, 1, none⟩ = some (.slice B' m' e') ∧ Below w2.heap.size w2 W from fun W hW =>
    ⟨(hy1.keep hW).cell 0 _ rfl, (hy1.keep hW).cell 1 _ rfl, (hy2.keep hW).cell 0 _ rfl, (hy2.keep hW).cell 1 _ rfl, hW⟩)
  have HBW := Lib.hid hbw
  clear hy1 hy2 hb2 hbw
  go_wp2_with fail
  go_region_held3 (fun W => W.cell? ⟨w.heap.size, 0, none⟩ = some (.slice A n c) ∧ W.cell? ⟨w.heap.size, 1, none⟩ = some (.slice B m e) ∧ W.cell? ⟨w.heap.size + 1, 0, none⟩ = some (.slice A' n' c') ∧ W.cell? ⟨w.heap.size + 1, 1, none⟩ = some (.slice B' m' e') ∧ Below w2.heap.size w2 W)
    (first
      | exact HK.out _ ((Below.refl _ _).drew)
      | exact HK.out _ (by assumption)
      | assumption)
    (first
      | (go_at_call_of 11 (Value.agg #[Value.slice A n c, Value.slice B m e]); refine (drow_any _ ps ms _ ((Hv.out.keep HBW.out).keep (And.right (And.right (And.right (And.right (by assumption))))))).mono ?_; rintro e3 w3 ⟨v3, rfl, h3, hb3⟩; have f3 : Below w2.heap.size w2 w3 := up (And.right (And.right (And.right (And.right (by assumption))))) hb3)
      | (go_at_call_of 11 (Value.agg #[Value.slice A' n' c', Value.slice B' m' e']); refine (drow_any _ qs ns _ ((Hu.out.keep HBW.out).keep (And.right (And.right (And.right (And.right (by assumption))))))).mono ?_; rintro e4 w4 ⟨v4, rfl, h4, hb4⟩; have f4 : Below w2.heap.size w2 w4 := up (And.right (And.right (And.right (And.right (by assumption))))) hb4))
  have ia := rowV_ok ps ms
  have ib := rowV_ok qs ns
  obtain ⟨a, ha⟩ : ∃ a, a = rowV ps ms := ⟨_, rfl⟩
  obtain ⟨b, hb⟩ : ∃ b, b = rowV qs ns := ⟨_, rfl⟩
  rw [← ha] at ia h3
  rw [← hb] at ib h4
  clear ha hb
  obtain ⟨sa, pa, ca, xa⟩ := good_is ia
  obtain ⟨sb, pb, cb, _⟩ := good_is ib
  have hst : a ≠ b → (⟨(prtL a).toArray⟩ : ByteArray) ≠ ⟨(prtL b).toArray⟩ := fun h e => h ((prt_inj ia ib).1 (by
    have := congrArg (fun s : ByteArray => s.data.toList) e
    simpa using this))
  obtain ⟨A3, c3, rfl⟩ := h3.form
  obtain ⟨A4, c4, rfl⟩ := h4.form
  have H5 := Lib.hid (h3.keep hb4)
  have H6 := Lib.hid h4
  have HT5 := Lib.hid ((HT.out.keep HBW.out).keep f4)
  have HB4 := Lib.hid (up HBW.out f4)
  clear h3 h4 hb3 hb4 f3 f4 ia ib
  have Hst := Lib.hid hst
  clear hst
  by_cases hab : a = b
  · subst hab
    obtain ⟨la, hal⟩ : ∃ la, a.length = la := ⟨_, rfl⟩
    rw [hal] at H5 H6 ⊢
    go_wp2_with fail
    refine (print_any _ a _ H5.out sa (HT5.out)).mono ?_
    rw [pa, ca]
    rintro e5 w5 ⟨rfl, hb5⟩
    go_wp2_with fail
    refine (print_any _ a _ (H6.out.keep hb5) sa (HT5.out.keep hb5)).mono ?_
    rw [pa, ca]
    rintro e6 w6 ⟨rfl, hb6⟩
    go_wp2_with fail
    refine (parse_any ⟨(prtL a).toArray⟩ _).mono ?_
    rw [xa]
    dsimp only
    rintro e7 w7 ⟨v7, rfl, h7, hb7⟩
    obtain ⟨A7, c7, rfl⟩ := h7.1.form
    have H7 := Lib.hid h7.1
    clear h7
    have H8 := Lib.hid (((H5.out.keep hb5).keep hb6).keep hb7)
    have H9 := Lib.hid (((H6.out.keep hb5).keep hb6).keep hb7)
    have HB7 := Lib.hid (up HB4.out (up hb5 (up hb6 hb7)))
    clear hb5 hb6 hb7
    rw [hal] at H7 ⊢
    go_wp2_with fail
    refine (check_any _ a _ H8.out sa.1 sa.2).mono ?_
    rw [ca]
    rintro e8 w8 ⟨rfl, hb8⟩
    go_wp2_with fail
    refine (rsame_any _ _ a a _ (H7.out.keep hb8) (H8.out.keep hb8) sa.1 sa.2 sa.2).mono ?_
    rw [decide_eq_true rfl]
    rintro e9 w9 ⟨rfl, hb9⟩
    go_wp2_with fail
    refine (rsame_any _ _ a a _ ((H8.out.keep hb8).keep hb9) ((H9.out.keep hb8).keep hb9) sa.1 sa.2 sa.2).mono ?_
    rw [decide_eq_true rfl]
    rintro e10 w10 ⟨rfl, hb10⟩
    go_wp2_with fail
    refine (same_any _ _ a a _ (((H8.out.keep hb8).keep hb9).keep hb10) (((H9.out.keep hb8).keep hb9).keep hb10) sa.1 sa.2).mono ?_
    rw [decide_eq_true rfl]
    rintro e11 w11 ⟨rfl, hb11⟩
    go_wp2
    go_ret
    exact ⟨rfl, up HB7.out (up hb8 (up hb9 (up hb10 hb11)))⟩
  · have qab : decide (a = b) = false := decide_eq_false hab
    have hne := Hst.out hab
    obtain ⟨S, hS⟩ : ∃ S : ByteArray, S = ⟨(prtL a).toArray⟩ := ⟨_, rfl⟩
    obtain ⟨T, hT⟩ : ∃ T : ByteArray, T = ⟨(prtL b).toArray⟩ := ⟨_, rfl⟩
    rw [← hS] at pa xa hne
    rw [← hT] at pb hne
    have hne2 : ¬ S.toList = T.toList := fun e => hne (by
      rw [ByteArray.toList_eq, ByteArray.toList_eq] at e
      cases S; cases T; exact congrArg ByteArray.mk (Array.ext' e))
    have hne3 : (S.toList == T.toList) = false := by simp [hne2]
    clear hab hS hT
    obtain ⟨la, hal⟩ : ∃ la, a.length = la := ⟨_, rfl⟩
    obtain ⟨lb, hbl⟩ : ∃ lb, b.length = lb := ⟨_, rfl⟩
    rw [hal] at H5 ⊢
    rw [hbl] at H6 ⊢
    go_wp2_with fail
    refine (print_any _ a _ H5.out sa (HT5.out)).mono ?_
    rw [pa, ca]
    rintro e5 w5 ⟨rfl, hb5⟩
    go_wp2_with fail
    refine (print_any _ b _ (H6.out.keep hb5) sb (HT5.out.keep hb5)).mono ?_
    rw [pb, cb]
    rintro e6 w6 ⟨rfl, hb6⟩
    go_wp2_with fail
    refine (parse_any S _).mono ?_
    rw [xa]
    dsimp only
    rintro e7 w7 ⟨v7, rfl, h7, hb7⟩
    obtain ⟨A7, c7, rfl⟩ := h7.1.form
    have H7 := Lib.hid h7.1
    clear h7
    have H8 := Lib.hid (((H5.out.keep hb5).keep hb6).keep hb7)
    have H9 := Lib.hid (((H6.out.keep hb5).keep hb6).keep hb7)
    have HB7 := Lib.hid (up HB4.out (up hb5 (up hb6 hb7)))
    clear hb5 hb6 hb7
    rw [hal] at H7 ⊢
    go_wp2_with fail
    refine (check_any _ a _ H8.out sa.1 sa.2).mono ?_
    rw [ca]
    rintro e8 w8 ⟨rfl, hb8⟩
    go_wp2_with fail
    refine (rsame_any _ _ a a _ (H7.out.keep hb8) (H8.out.keep hb8) sa.1 sa.2 sa.2).mono ?_
    rw [decide_eq_true rfl]
    rintro e9 w9 ⟨rfl, hb9⟩
    go_wp2_with fail
    refine (rsame_any _ _ a b _ ((H8.out.keep hb8).keep hb9) ((H9.out.keep hb8).keep hb9) sa.1 sa.2 sb.2).mono ?_
    rw [qab]
    rintro e10 w10 ⟨rfl, hb10⟩
    go_wp2_with fail
    refine (same_any _ _ a b _ (((H8.out.keep hb8).keep hb9).keep hb10) (((H9.out.keep hb8).keep hb9).keep hb10) sa.1 sa.2).mono ?_
    rw [qab]
    rintro e11 w11 ⟨rfl, hb11⟩
    go_wp2
    go_ret
    exact ⟨rfl, up HB7.out (up hb8 (up hb9 (up hb10 hb11)))⟩
end Go.Proofs.YtelglcchcpnfbaaDoor.Par
