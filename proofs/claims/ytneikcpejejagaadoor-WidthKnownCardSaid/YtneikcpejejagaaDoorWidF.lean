/-
  Contracts of what the laws of layer 2 use besides the width package: cuts, works (the chapter's examples hold: it returns true).
-/
import Derived.Test.YtneikcpejejagaaDoorWidE
namespace Go.Proofs.YtneikcpejejagaaDoor.Wid
open Go.RowKit Utf

theorem of_is (c r : Int) (hr : wid c = r) (w : World) (h : Tb w) : Calls Tryd.prog 8 #[.int .i64 c] w fun e w' => e = .returned (.int .i64 r) ∧ Below w.heap.size w w' := by
  subst hr; exact of_any c w h
theorem wtext_is (s : ByteArray) (r : Int) (hr : colsL (codesL s.data.toList) = r) (w : World) (h : Tb w) (hs : s.size ≤ 100000) :
    Calls Tryd.prog 13 #[.string s] w fun e w' => e = .returned (.int .i64 r) ∧ Below w.heap.size w w' := by
  subst hr; exact wtext_any s w h hs
theorem ba_list {l : List UInt8} {a : ByteArray} (h : l = a.data.toList) : (⟨l.toArray⟩ : ByteArray) = a := by
  subst h
  cases a
  simp
theorem cut_is (s a b : ByteArray) (k : Int) (w : World) (h : Tb w) (hs : s.size ≤ 40000) (h1 : textL ((codesL s.data.toList).take (cutN (codesL s.data.toList) k)) = a.data.toList) (h2 : textL ((codesL s.data.toList).drop (cutN (codesL s.data.toList) k)) = b.data.toList) :
    Calls Tryd.prog 11 #[.string s, .int .i64 k] w fun e w' => e = .returned (.tuple #[.string a, .string b]) ∧ Below w.heap.size w w' := by
  have := cut_any s k w h hs
  rw [ba_list h1, ba_list h2] at this
  exact this
set_option maxRecDepth 100000 in
set_option maxHeartbeats 1000000 in
theorem cuts_yes (s a b : ByteArray) (k : Int) (w : World) (h : Tb w) (hs : s.size ≤ 40000) (h1 : textL ((codesL s.data.toList).take (cutN (codesL s.data.toList) k)) = a.data.toList) (h2 : textL ((codesL s.data.toList).drop (cutN (codesL s.data.toList) k)) = b.data.toList) :
    Calls Tryd.prog 16 #[.string s, .int .i64 k, .string a, .string b] w fun e w' => e = .returned (.bool true) ∧ Below w.heap.size w w' := by
  have H := Lib.hid h; clear h
  have H1 := Lib.hid h1; clear h1
  have H2 := Lib.hid h2; clear h2
  go_enter Tryd.func16, Tryd.ntmps16
  go_wp2_with fail
  refine (cut_is s a b k _ H.out hs H1.out H2.out).mono ?_
  rintro e w1 ⟨rfl, hb1⟩
  go_wp2
  go_ret
  exact ⟨rfl, hb1⟩

set_option maxRecDepth 100000 in
set_option maxHeartbeats 4000000 in
theorem works_any (w : World) (h : Tb w) : Calls Tryd.prog 10 #[] w fun e w' => e = .returned (.bool true) ∧ Below w.heap.size w w' := by
  have H := Lib.hid h; clear h
  have h0 : Below w.heap.size w w := Below.refl _ _
  go_enter Tryd.func10, Tryd.ntmps10
  go_wp2_with fail
  refine (of_is _ 1 (by decide +kernel) _ ((H.out).keep h0)).mono ?_
  rintro e w1 ⟨rfl, hb1⟩
  have h1 := h0.trans (hb1.mono h0.size)
  clear hb1 h0
  go_wp2_with fail
  refine (of_is _ 0 (by decide +kernel) _ ((H.out).keep h1)).mono ?_
  rintro e w2 ⟨rfl, hb2⟩
  have h2 := h1.trans (hb2.mono h1.size)
  clear hb2 h1
  go_wp2_with fail
  refine (of_is _ 2 (by decide +kernel) _ ((H.out).keep h2)).mono ?_
  rintro e w3 ⟨rfl, hb3⟩
  have h3 := h2.trans (hb3.mono h2.size)
  clear hb3 h2
  go_wp2_with fail
  refine (of_is _ (-1) (by decide +kernel) _ ((H.out).keep h3)).mono ?_
  rintro e w4 ⟨rfl, hb4⟩
  have h4 := h3.trans (hb4.mono h3.size)
  clear hb4 h3
  go_wp2_with fail
  refine (of_is _ 2 (by decide +kernel) _ ((H.out).keep h4)).mono ?_
  rintro e w5 ⟨rfl, hb5⟩
  have h5 := h4.trans (hb5.mono h4.size)
  clear hb5 h4
  go_wp2_with fail
  refine (of_is _ 1 (by decide +kernel) _ ((H.out).keep h5)).mono ?_
  rintro e w6 ⟨rfl, hb6⟩
  have h6 := h5.trans (hb6.mono h5.size)
  clear hb6 h5
  go_wp2_with fail
  refine (of_is _ 1 (by decide +kernel) _ ((H.out).keep h6)).mono ?_
  rintro e w7 ⟨rfl, hb7⟩
  have h7 := h6.trans (hb7.mono h6.size)
  clear hb7 h6
  go_wp2_with fail
  refine (of_is _ (-1) (by decide +kernel) _ ((H.out).keep h7)).mono ?_
  rintro e w8 ⟨rfl, hb8⟩
  have h8 := h7.trans (hb8.mono h7.size)
  clear hb8 h7
  go_wp2_with fail
  refine (wtext_is _ 3 (by decide +kernel) _ ((H.out).keep h8) (by decide +kernel)).mono ?_
  rintro e w9 ⟨rfl, hb9⟩
  have h9 := h8.trans (hb9.mono h8.size)
  clear hb9 h8
  go_wp2_with fail
  refine (cuts_yes _ _ _ _ _ ((H.out).keep h9) (by decide +kernel) (by decide +kernel) (by decide +kernel)).mono ?_
  rintro e w10 ⟨rfl, hb10⟩
  have h10 := h9.trans (hb10.mono h9.size)
  clear hb10 h9
  go_wp2_with fail
  refine (cuts_yes _ _ _ _ _ ((H.out).keep h10) (by decide +kernel) (by decide +kernel) (by decide +kernel)).mono ?_
  rintro e w11 ⟨rfl, hb11⟩
  have h11 := h10.trans (hb11.mono h10.size)
  clear hb11 h10
  go_wp2_with fail
  refine (cuts_yes _ _ _ _ _ ((H.out).keep h11) (by decide +kernel) (by decide +kernel) (by decide +kernel)).mono ?_
  rintro e w12 ⟨rfl, hb12⟩
  have h12 := h11.trans (hb12.mono h11.size)
  clear hb12 h11
  go_wp2_with fail
  refine (cuts_yes _ _ _ _ _ ((H.out).keep h12) (by decide +kernel) (by decide +kernel) (by decide +kernel)).mono ?_
  rintro e w13 ⟨rfl, hb13⟩
  have h13 := h12.trans (hb13.mono h12.size)
  clear hb13 h12
  go_wp2
  go_ret
  exact ⟨rfl, h13⟩
end Go.Proofs.YtneikcpejejagaaDoor.Wid
