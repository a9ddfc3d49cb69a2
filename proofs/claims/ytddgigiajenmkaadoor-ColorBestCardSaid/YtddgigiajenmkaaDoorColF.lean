/-
  Contracts of what the laws of layer 3 use besides the color package: index, rgb, shows, near, refused, works (the chapter's examples hold: it returns true).
-/
import Derived.Test.YtddgigiajenmkaaDoorColD
import Derived.Test.YtddgigiajenmkaaDoorColE
import Derived.Deep.RegionHeld3
namespace Go.Proofs.YtddgigiajenmkaaDoor.Col
open Go.RowKit Utf

theorem ret_cell1 {P : Program} {fn : Func} {p : Tmp} {ty : TypeId} (h : fn.results = #[.cell p ty]) (tmps : Array Value) (w : World) (a : Addr) (v : Value) (ha : tmps.getD p undef = .pointer (some a)) (hl : (loadVar ty a).run P w = .ok v w) :
    (results fn tmps).run P w = .ok v w := by
  have ha' : tmps[p]?.getD undef = .pointer (some a) := by simpa using ha
  simp only [results, h]
  simp [ha', asAddr, hl]
theorem index_any (n : Int) (w : World) : Calls Tryd.prog 22 #[.int .i64 n] w fun e w' => e = .returned (.agg #[.int .i64 1, .int .i64 n]) ∧ Below w.heap.size w w' := by
  go_enter Tryd.func22, Tryd.ntmps22
  go_wp2
  refine bodyPost_ret (ret_cell1 rfl _ _ ⟨w.heap.size, 0, none⟩ _ rfl (load_col _ _ (.int .i64 1) (.int .i64 n) (by go_simp) (by go_simp))) rfl ?_
  exact ⟨rfl, below_box _ _⟩
theorem lrgb_any (n : Int) (w : World) : Calls Tryd.prog 25 #[.int .i64 n] w fun e w' => e = .returned (.agg #[.int .i64 2, .int .i64 n]) ∧ Below w.heap.size w w' := by
  go_enter Tryd.func25, Tryd.ntmps25
  go_wp2
  refine bodyPost_ret (ret_cell1 rfl _ _ ⟨w.heap.size, 0, none⟩ _ rfl (load_col _ _ (.int .i64 2) (.int .i64 n) (by go_simp) (by go_simp))) rfl ?_
  exact ⟨rfl, below_box _ _⟩
/-- the contracts at a known answer -/
theorem check_is (k n r : Int) (hr : errC k n = r) (w : World) (h : Tc w) : Calls Tryd.prog 14 #[.agg #[.int .i64 k, .int .i64 n]] w fun e w' => e = .returned (.int .i64 r) ∧ Below w.heap.size w w' := by
  subst hr; exact check_any k n w h
theorem rgb_is (k n : Int) (r : Int) (hr : rgbC k n = some r) (w : World) (h : Tc w) : Calls Tryd.prog 10 #[.agg #[.int .i64 k, .int .i64 n]] w fun e w' => e = .returned (.tuple #[.int .i64 r, .bool true]) ∧ Below w.heap.size w w' := by
  rw [rgbV_some k n r hr]; exact rgb_any k n w h
theorem rgb_not (k n : Int) (hr : rgbC k n = none) (w : World) (h : Tc w) : Calls Tryd.prog 10 #[.agg #[.int .i64 k, .int .i64 n]] w fun e w' => e = .returned (.tuple #[.int .i64 0, .bool false]) ∧ Below w.heap.size w w' := by
  rw [rgbV_none k n hr]; exact rgb_any k n w h
theorem text_is (k n : Int) (s : ByteArray) (r : Int) (hs : txtC k n = s) (hr : txtE k n = r) (w : World) (h : Tc w) : Calls Tryd.prog 12 #[.agg #[.int .i64 k, .int .i64 n]] w fun e w' => e = .returned (.tuple #[.string s, .int .i64 r]) ∧ Below w.heap.size w w' := by
  subst hs; subst hr; exact text_any k n w h
theorem nearest_is (x a b : Int) (ha : nearC x = a) (hb : nearE x = b) (w : World) (h : Tc w) : Calls Tryd.prog 18 #[.int .i64 x] w fun e w' => e = .returned (.tuple #[.int .i64 a, .int .i64 b]) ∧ Below w.heap.size w w' := by
  subst ha; subst hb; exact nearest_any x w h
theorem parse_is (s : ByteArray) (n : Nat) (hn : parseL s.data.toList = some n) (w : World) : Calls Tryd.prog 20 #[.string s] w fun e w' => e = .returned (.tuple #[.agg #[.int .i64 2, .int .i64 (n : Int)], .int .i64 0]) ∧ Below w.heap.size w w' := by
  rw [prsV_some _ n hn]; exact parse_any s w
theorem parse_not (s : ByteArray) (hn : parseL s.data.toList = none) (w : World) : Calls Tryd.prog 20 #[.string s] w fun e w' => e = .returned (.tuple #[.agg #[.int .i64 0, .int .i64 0], .int .i64 6]) ∧ Below w.heap.size w w' := by
  rw [prsV_none _ hn]; exact parse_any s w

set_option maxRecDepth 100000 in
set_option maxHeartbeats 1000000 in
theorem shows_yes (k n x : Int) (hx : rgbC k n = some x) (w : World) (h : Tc w) : Calls Tryd.prog 24 #[.agg #[.int .i64 k, .int .i64 n], .int .i64 x] w fun e w' => e = .returned (.bool true) ∧ Below w.heap.size w w' := by
  have H := Lib.hid h; clear h
  have Hx := Lib.hid hx; clear hx
  go_enter Tryd.func24, Tryd.ntmps24
  go_wp2_with fail
  refine (rgb_is k n x Hx.out _ ((H.out).keep (below_box _ _))).mono ?_
  rintro e w1 ⟨rfl, hb1⟩
  go_wp2
  go_ret
  exact ⟨rfl, (below_box _ _).trans (hb1.mono (by simp))⟩
set_option maxRecDepth 100000 in
set_option maxHeartbeats 1000000 in
theorem near_yes (x i : Int) (h1 : nearC x = i) (h2 : nearE x = 0) (w : World) (h : Tc w) : Calls Tryd.prog 27 #[.int .i64 x, .int .i64 i] w fun e w' => e = .returned (.bool true) ∧ Below w.heap.size w w' := by
  have H := Lib.hid h; clear h
  have H1 := Lib.hid h1; clear h1
  have H2 := Lib.hid h2; clear h2
  go_enter Tryd.func27, Tryd.ntmps27
  go_wp2_with fail
  refine (nearest_is x i 0 H1.out H2.out _ H.out).mono ?_
  rintro e w1 ⟨rfl, hb1⟩
  go_wp2
  go_ret
  exact ⟨rfl, hb1⟩
set_option maxRecDepth 100000 in
set_option maxHeartbeats 1000000 in
theorem refused_yes (s : ByteArray) (hn : parseL s.data.toList = none) (w : World) : Calls Tryd.prog 26 #[.string s] w fun e w' => e = .returned (.bool true) ∧ Below w.heap.size w w' := by
  have Hn := Lib.hid hn; clear hn
  go_enter Tryd.func26, Tryd.ntmps26
  go_wp2_with fail
  refine (parse_not s Hn.out _).mono ?_
  rintro e w1 ⟨rfl, hb1⟩
  go_wp2
  go_ret
  exact ⟨rfl, hb1.alloc hb1.size _⟩

set_option maxRecDepth 100000 in
set_option maxHeartbeats 8000000 in
theorem works_any (w : World) (h : Tc w) : Calls Tryd.prog 16 #[] w fun e w' => e = .returned (.bool true) ∧ Below w.heap.size w w' := by
  have H := Lib.hid h; clear h
  have h0 : Below w.heap.size w w := Below.refl _ _
  go_enter Tryd.func16, Tryd.ntmps16
  go_wp2_with fail
  refine (index_any _ _).mono ?_
  rintro e w1 ⟨rfl, hb1⟩
  have h1 := h0.trans (hb1.mono h0.size)
  clear hb1 h0
  go_wp2_with fail
  refine (shows_yes 1 1 13434880 (by decide +kernel) _ ((H.out).keep h1)).mono ?_
  rintro e w2 ⟨rfl, hb2⟩
  have h2 := h1.trans (hb2.mono h1.size)
  clear hb2 h1
  go_wp2_with fail
  refine (index_any _ _).mono ?_
  rintro e w3 ⟨rfl, hb3⟩
  have h3 := h2.trans (hb3.mono h2.size)
  clear hb3 h2
  go_wp2_with fail
  refine (shows_yes 1 16 0 (by decide +kernel) _ ((H.out).keep h3)).mono ?_
  rintro e w4 ⟨rfl, hb4⟩
  have h4 := h3.trans (hb4.mono h3.size)
  clear hb4 h3
  go_wp2_with fail
  refine (index_any _ _).mono ?_
  rintro e w5 ⟨rfl, hb5⟩
  have h5 := h4.trans (hb5.mono h4.size)
  clear hb5 h4
  go_wp2_with fail
  refine (shows_yes 1 21 255 (by decide +kernel) _ ((H.out).keep h5)).mono ?_
  rintro e w6 ⟨rfl, hb6⟩
  have h6 := h5.trans (hb6.mono h5.size)
  clear hb6 h5
  go_wp2_with fail
  refine (index_any _ _).mono ?_
  rintro e w7 ⟨rfl, hb7⟩
  have h7 := h6.trans (hb7.mono h6.size)
  clear hb7 h6
  go_wp2_with fail
  refine (shows_yes 1 231 16777215 (by decide +kernel) _ ((H.out).keep h7)).mono ?_
  rintro e w8 ⟨rfl, hb8⟩
  have h8 := h7.trans (hb8.mono h7.size)
  clear hb8 h7
  go_wp2_with fail
  refine (index_any _ _).mono ?_
  rintro e w9 ⟨rfl, hb9⟩
  have h9 := h8.trans (hb9.mono h8.size)
  clear hb9 h8
  go_wp2_with fail
  refine (shows_yes 1 232 526344 (by decide +kernel) _ ((H.out).keep h9)).mono ?_
  rintro e w10 ⟨rfl, hb10⟩
  have h10 := h9.trans (hb10.mono h9.size)
  clear hb10 h9
  go_wp2_with fail
  refine (index_any _ _).mono ?_
  rintro e w11 ⟨rfl, hb11⟩
  have h11 := h10.trans (hb11.mono h10.size)
  clear hb11 h10
  go_wp2_with fail
  refine (shows_yes 1 255 15658734 (by decide +kernel) _ ((H.out).keep h11)).mono ?_
  rintro e w12 ⟨rfl, hb12⟩
  have h12 := h11.trans (hb12.mono h11.size)
  clear hb12 h11
  go_wp2_with fail
  refine (near_yes 0 0 (by decide +kernel) (by decide +kernel) _ ((H.out).keep h12)).mono ?_
  rintro e w13 ⟨rfl, hb13⟩
  have h13 := h12.trans (hb13.mono h12.size)
  clear hb13 h12
  go_wp2_with fail
  refine (near_yes 16777215 15 (by decide +kernel) (by decide +kernel) _ ((H.out).keep h13)).mono ?_
  rintro e w14 ⟨rfl, hb14⟩
  have h14 := h13.trans (hb14.mono h13.size)
  clear hb14 h13
  go_wp2_with fail
  refine (near_yes 6260480 64 (by decide +kernel) (by decide +kernel) _ ((H.out).keep h14)).mono ?_
  rintro e w15 ⟨rfl, hb15⟩
  have h15 := h14.trans (hb15.mono h14.size)
  clear hb15 h14
  go_wp2_with fail
  refine (near_yes 657930 232 (by decide +kernel) (by decide +kernel) _ ((H.out).keep h15)).mono ?_
  rintro e w16 ⟨rfl, hb16⟩
  have h16 := h15.trans (hb16.mono h15.size)
  clear hb16 h15
  go_wp2_with fail
  refine (index_any _ _).mono ?_
  rintro e w17 ⟨rfl, hb17⟩
  have h17 := h16.trans (hb17.mono h16.size)
  clear hb17 h16
  go_wp2_with fail
  refine (text_is 1 9 ⟨#[114, 103, 98, 58, 102, 102, 47, 48, 48, 47, 48, 48]⟩ 0 (by decide +kernel) (by decide +kernel) _ ((H.out).keep h17)).mono ?_
  rintro e w18 ⟨rfl, hb18⟩
  have h18 := h17.trans (hb18.mono h17.size)
  clear hb18 h17
  go_wp2_with fail
  refine (text_is 0 0 ⟨#[]⟩ 2 (by decide +kernel) (by decide +kernel) _ ((H.out).keep h18)).mono ?_
  rintro e w19 ⟨rfl, hb19⟩
  have h19 := h18.trans (hb19.mono h18.size)
  clear hb19 h18
  go_wp2_with fail
  refine (lrgb_any _ _).mono ?_
  rintro e w20 ⟨rfl, hb20⟩
  have h20 := h19.trans (hb20.mono h19.size)
  clear hb20 h19
  go_wp2_with fail
  refine (text_is 2 (-1) ⟨#[]⟩ 130 (by decide +kernel) (by decide +kernel) _ ((H.out).keep h20)).mono ?_
  rintro e w21 ⟨rfl, hb21⟩
  have h21 := h20.trans (hb21.mono h20.size)
  clear hb21 h20
  go_wp2_with fail
  refine (parse_is _ 11207167 (by decide +kernel) _).mono ?_
  rintro e w22 ⟨rfl, hb22⟩
  have h22 := h21.trans (hb22.mono h21.size)
  clear hb22 h21
  go_wp2_with fail
  have hb := h22.alloc h22.size (.cells #[.int .i64 2, .int .i64 11207167] 23)
  have hbx : (w22.alloc (.cells #[.int .i64 2, .int .i64 11207167] 23)).heap[w22.heap.size]? = some (.cells #[.int .i64 2, .int .i64 11207167] 23 (0, 0)) := heap_alloc_new w22 _
  generalize w22.alloc (.cells #[.int .i64 2, .int .i64 11207167] 23) = W at hb hbx ⊢
  have hlt := (Array.getElem?_eq_some_iff.1 hbx).1
  generalize w22.heap.size = B at hbx hlt ⊢
  have c0 : W.cell? ⟨B, 0, none⟩ = some (.int .i64 2) := by simp [World.cell?, hbx]
  have c1 : W.cell? ⟨B, 1, none⟩ = some (.int .i64 11207167) := by simp [World.cell?, hbx]
  have hG : Below W.heap.size W W.drew := (Below.refl _ W).drew
  clear hbx h22
  have n1 := Lib.hid (show parseL (⟨#[114, 103, 98, 58, 97, 98, 47, 48, 49]⟩ : ByteArray).data.toList = none by decide +kernel)
  have n2 := Lib.hid (show parseL (⟨#[114, 103, 98, 58, 97, 98, 47, 48, 49, 47, 102]⟩ : ByteArray).data.toList = none by decide +kernel)
  go_region_held3 (fun w' => w'.cell? ⟨B, 0, none⟩ = some (.int .i64 2) ∧ w'.cell? ⟨B, 1, none⟩ = some (.int .i64 11207167)) (exact ⟨by assumption, by assumption⟩) (first
    | (go_at_call 25; ((with_reducible refine (lrgb_any _ _).mono ?_); (rintro e wA ⟨rfl, hbA⟩; have hG := hG.trans (hbA.mono hG.size); have d0 := (hG.cell (p := ⟨B, 0, none⟩) hlt).trans c0; have d1 := (hG.cell (p := ⟨B, 1, none⟩) hlt).trans c1)))
    | (go_at_call 26; ((with_reducible refine (refused_yes _ n1.out _).mono ?_); (rintro e wA ⟨rfl, hbA⟩; have hG := hG.trans (hbA.mono hG.size); have d0 := (hG.cell (p := ⟨B, 0, none⟩) hlt).trans c0; have d1 := (hG.cell (p := ⟨B, 1, none⟩) hlt).trans c1)))
    | (go_at_call 26; ((with_reducible refine (refused_yes _ n2.out _).mono ?_); (rintro e wA ⟨rfl, hbA⟩; have hG := hG.trans (hbA.mono hG.size); have d0 := (hG.cell (p := ⟨B, 0, none⟩) hlt).trans c0; have d1 := (hG.cell (p := ⟨B, 1, none⟩) hlt).trans c1))))
  all_goals
    go_wp2
    go_ret
    exact ⟨rfl, hb.trans (hG.mono hb.size)⟩
end Go.Proofs.YtddgigiajenmkaaDoor.Col
