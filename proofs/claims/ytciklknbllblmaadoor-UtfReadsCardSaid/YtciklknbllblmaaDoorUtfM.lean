/-
  Contract of works: the chapter's examples hold: it returns true.
-/
import Derived.Test.YtciklknbllblmaaDoorUtfL
namespace Go.Proofs.YtciklknbllblmaaDoor.Utf
open Go.RowKit

theorem Rd.lit (w : World) (cs : Array Value) (t : TypeId) : Rd (w.alloc (.cells cs t)) (some ⟨w.heap.size, 0, none⟩) cs.toList := fun j u hu =>
  ⟨_, rfl, by simp, World.news_of_block (heap_alloc_new w _) j u hu⟩

theorem put_yes (c : Int) (l : List UInt8) (h : encL c = l) (w : World) (hm : Mk w) :
    Calls Tryd.prog 12 #[.int .i64 c] w fun e w' => e = .returned (.string ⟨l.toArray⟩) ∧ Below w.heap.size w w' := by
  subst h; exact put_any c w hm
theorem steps_yes (p r : ByteArray) (bi : Int) (b : UInt8) (hb : (b.toNat : Int) = bi) (B : Option Addr) (d n : Nat) (ys : List Int) (hn : ys.length = n) (w : World) (hy : Rd w B (cI ys)) (hmk : Mk w) (hs : p.size ≤ 100000)
    (ht : (eqB (stepL p.data.toList b).1 r.data.toList && eqI (stepL p.data.toList b).2 ys) = true) :
    Calls Tryd.prog 27 #[.string p, .int .u8 bi, .string r, .slice B n d] w fun e w' => e = .returned (.bool true) ∧ Below w.heap.size w w' := by
  subst hb; subst hn; rw [← ht]; exact lsteps_any p b r B d ys w hy hmk hs
theorem is_yes (q : ByteArray) (B : Option Addr) (d n : Nat) (ys : List Int) (hn : ys.length = n) (w : World) (hy : Rd w B (cI ys)) (hmk : Mk w) (hs : q.size ≤ 100000) (ht : eqI (codesL q.data.toList) ys = true) :
    Calls Tryd.prog 26 #[.string q, .slice B n d] w fun e w' => e = .returned (.bool true) ∧ Below w.heap.size w w' := by
  subst hn; rw [← ht]; exact is_any q B d ys w hy hmk hs
theorem ints_yes (A B : Option Addr) (c d n m : Nat) (xs ys : List Int) (hn : xs.length = n) (hm : ys.length = m) (w : World) (hx : Rd w A (cI xs)) (hy : Rd w B (cI ys)) (hl : xs.length ≤ 1000000) (ht : eqI xs ys = true) :
    Calls Tryd.prog 19 #[.slice A n c, .slice B m d] w fun e w' => e = .returned (.bool true) ∧ Below w.heap.size w w' := by
  subst hn; subst hm; rw [← ht]; exact ints_any A B c d xs ys w hx hy hl
def FlushPost (zs : List Int) (m : Nat) (w : World) (e : Ending) (w' : World) : Prop :=
  ∃ A c, e = .returned (.slice A m c) ∧ Rd w' A (cI zs) ∧ Below w.heap.size w w'
theorem flush_yes (A : Option Addr) (c n m : Nat) (bs : List UInt8) (zs : List Int) (hn : bs.length = n) (hm : zs.length = m) (w : World) (h : Rd w A (cB bs)) (hmk : Mk w) (hc : bs.length ≤ c) (hs : bs.length ≤ 1000000) (hf : flushL bs = zs) :
    Calls Tryd.prog 20 #[.slice A n c] w (FlushPost zs m w) := by
  subst hn; subst hm; subst hf; exact (flush_any A c bs w h hmk hc hs).mono fun _ _ ⟨A', c', he, hr, hb, _⟩ => ⟨A', c', he, hr, hb⟩

set_option maxRecDepth 100000 in
set_option maxHeartbeats 4000000 in
theorem works_any (w : World) (hm : Mk w) : Calls Tryd.prog 16 #[] w fun e w' => e = .returned (.bool true) ∧ Below w.heap.size w w' := by
  have HM := Lib.hid hm; clear hm
  go_enter Tryd.func16, Tryd.ntmps16
  have h0 : Below w.heap.size w w := Below.refl _ _
  go_wp2_with fail
  refine (put_yes _ [195, 169] (by decide +kernel) _ ((HM.out).keep h0)).mono ?_
  rintro e w1 ⟨rfl, hb1⟩
  have h1 := h0.trans (hb1.mono h0.size)
  clear hb1 h0
  go_wp2_with fail
  refine (put_yes _ [226, 130, 172] (by decide +kernel) _ ((HM.out).keep h1)).mono ?_
  rintro e w2 ⟨rfl, hb2⟩
  have h2 := h1.trans (hb2.mono h1.size)
  clear hb2 h1
  go_wp2_with fail
  refine (put_yes _ [240, 159, 152, 128] (by decide +kernel) _ ((HM.out).keep h2)).mono ?_
  rintro e w3 ⟨rfl, hb3⟩
  have h3 := h2.trans (hb3.mono h2.size)
  clear hb3 h2
  go_wp2_with fail
  refine (put_yes _ [239, 191, 189] (by decide +kernel) _ ((HM.out).keep h3)).mono ?_
  rintro e w4 ⟨rfl, hb4⟩
  have h4 := h3.trans (hb4.mono h3.size)
  clear hb4 h3
  go_wp2_with fail
  refine (put_yes _ [239, 191, 189] (by decide +kernel) _ ((HM.out).keep h4)).mono ?_
  rintro e w5 ⟨rfl, hb5⟩
  have h5 := h4.trans (hb5.mono h4.size)
  clear hb5 h4
  go_wp2_with fail
  have ha6 := h5.alloc h5.size (.cells #[.int .i64 8364] 3)
  refine (steps_yes ⟨#[226, 130]⟩ ⟨#[]⟩ _ 172 (by decide +kernel) (some ⟨w5.heap.size, 0, none⟩) 1 1 [8364] rfl _ (Rd.lit _ #[.int .i64 8364] _) ((HM.out).keep ha6) (by decide +kernel) (by decide +kernel)).mono ?_
  rintro e w6 ⟨rfl, hb6⟩
  have h6 := ha6.trans (hb6.mono ha6.size)
  clear hb6 ha6 h5
  go_wp2_with fail
  have ha7 := h6.alloc h6.size (.cells #[.int .i64 65533, .int .i64 65] 3)
  refine (steps_yes ⟨#[226]⟩ ⟨#[]⟩ _ 65 (by decide +kernel) (some ⟨w6.heap.size, 0, none⟩) 2 2 [65533, 65] rfl _ (Rd.lit _ #[.int .i64 65533, .int .i64 65] _) ((HM.out).keep ha7) (by decide +kernel) (by decide +kernel)).mono ?_
  rintro e w7 ⟨rfl, hb7⟩
  have h7 := ha7.trans (hb7.mono ha7.size)
  clear hb7 ha7 h6
  go_wp2_with fail
  have ha8 := h7.alloc h7.size (.cells #[.int .i64 65533] 3)
  refine (steps_yes ⟨#[]⟩ ⟨#[]⟩ _ 192 (by decide +kernel) (some ⟨w7.heap.size, 0, none⟩) 1 1 [65533] rfl _ (Rd.lit _ #[.int .i64 65533] _) ((HM.out).keep ha8) (by decide +kernel) (by decide +kernel)).mono ?_
  rintro e w8 ⟨rfl, hb8⟩
  have h8 := ha8.trans (hb8.mono ha8.size)
  clear hb8 ha8 h7
  go_wp2_with fail
  have ha9 := h8.alloc h8.size (.cells #[.int .i64 65533, .int .i64 65533] 3)
  refine (steps_yes ⟨#[224]⟩ ⟨#[]⟩ _ 128 (by decide +kernel) (some ⟨w8.heap.size, 0, none⟩) 2 2 [65533, 65533] rfl _ (Rd.lit _ #[.int .i64 65533, .int .i64 65533] _) ((HM.out).keep ha9) (by decide +kernel) (by decide +kernel)).mono ?_
  rintro e w9 ⟨rfl, hb9⟩
  have h9 := ha9.trans (hb9.mono ha9.size)
  clear hb9 ha9 h8
  go_wp2_with fail
  refine (steps_yes ⟨#[]⟩ ⟨#[244]⟩ _ 244 (by decide +kernel) none 0 0 [] rfl _ (Rd.nil _ _) ((HM.out).keep h9) (by decide +kernel) (by decide +kernel)).mono ?_
  rintro e w10 ⟨rfl, hb10⟩
  have h10 := h9.trans (hb10.mono h9.size)
  clear hb10 h9
  go_wp2_with fail
  have ha11 := h10.alloc h10.size (.cells #[.int .i64 97, .int .i64 65533, .int .i64 98] 3)
  refine (is_yes ⟨#[97, 240, 159, 98]⟩ (some ⟨w10.heap.size, 0, none⟩) 3 3 [97, 65533, 98] rfl _ (Rd.lit _ #[.int .i64 97, .int .i64 65533, .int .i64 98] _) ((HM.out).keep ha11) (by decide +kernel) (by decide +kernel)).mono ?_
  rintro e w11 ⟨rfl, hb11⟩
  have h11 := ha11.trans (hb11.mono ha11.size)
  clear hb11 ha11 h10
  go_wp2_with fail
  have ha12 := h11.alloc h11.size (.cells #[.int .i64 65533, .int .i64 65533, .int .i64 65533] 3)
  refine (is_yes ⟨#[237, 160, 128]⟩ (some ⟨w11.heap.size, 0, none⟩) 3 3 [65533, 65533, 65533] rfl _ (Rd.lit _ #[.int .i64 65533, .int .i64 65533, .int .i64 65533] _) ((HM.out).keep ha12) (by decide +kernel) (by decide +kernel)).mono ?_
  rintro e w12 ⟨rfl, hb12⟩
  have h12 := ha12.trans (hb12.mono ha12.size)
  clear hb12 ha12 h11
  go_wp2_with fail
  have ha13 := h12.alloc h12.size (.cells #[.int .u8 195] 5)
  refine (flush_yes (some ⟨w12.heap.size, 0, none⟩) 1 1 1 [195] [65533] rfl rfl _ (Rd.lit _ #[.int .u8 195] _) ((HM.out).keep ha13) (by decide) (by decide) (by decide +kernel)).mono ?_
  rintro e w13 ⟨A13, c13, rfl, hr13, hb13⟩
  have h13 := ha13.trans (hb13.mono ha13.size)
  have HR13 := Lib.hid hr13
  clear hb13 ha13 h12 hr13
  go_wp2_with fail
  have ha14 := h13.alloc h13.size (.cells #[.int .i64 65533] 3)
  refine (ints_yes A13 (some ⟨w13.heap.size, 0, none⟩) c13 1 1 1 [65533] [65533] rfl rfl _ ((HR13.out).below ((Below.refl _ _).alloc (Nat.le_refl _) _)) (Rd.lit _ #[.int .i64 65533] _) (by decide) (by decide +kernel)).mono ?_
  rintro e w14 ⟨rfl, hb14⟩
  have h14 := ha14.trans (hb14.mono ha14.size)
  clear hb14 ha14 h13
  go_wp2_with fail
  refine (flush_yes none 0 0 0 [] [] rfl rfl _ (Rd.nil _ _) ((HM.out).keep h14) (by decide) (by decide) (by decide +kernel)).mono ?_
  rintro e w15 ⟨A15, c15, rfl, hr15, hb15⟩
  have h15 := h14.trans (hb15.mono h14.size)
  clear hb15 h14 hr15
  go_wp2_with fail
  have ha16 := h15.alloc h15.size (.cells #[.int .u8 65] 5)
  refine (flush_yes (some ⟨w15.heap.size, 0, none⟩) 1 1 0 [65] [] rfl rfl _ (Rd.lit _ #[.int .u8 65] _) ((HM.out).keep ha16) (by decide) (by decide) (by decide +kernel)).mono ?_
  rintro e w16 ⟨A16, c16, rfl, hr16, hb16⟩
  have h16 := ha16.trans (hb16.mono ha16.size)
  clear hb16 ha16 h15 hr16
  go_wp2
  go_ret
  exact ⟨rfl, h16⟩
end Go.Proofs.YtciklknbllblmaaDoor.Utf
