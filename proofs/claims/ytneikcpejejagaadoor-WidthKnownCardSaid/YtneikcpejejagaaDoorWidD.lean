/-
  Contract of the width package's Text: it returns the sum of the widths of the code points of a string.
-/
import Derived.Test.YtneikcpejejagaaDoorWidC
import Derived.Test.YtneikcpejejagaaDoorUtfK
namespace Go.Proofs.YtneikcpejejagaaDoor.Wid
open Go.RowKit Utf

theorem rd_setCell {w : World} {A : Option Addr} {xs : List Value} (h : Rd w A xs) {B : Nat} (hne : ∀ ad, A = some ad → ad.block ≠ B) (v : Value) : Rd (w.setCell ⟨B, 0, none⟩ v) A xs := fun j u hu => by
  obtain ⟨ad, rfl, hlt, hc⟩ := h j u hu
  refine ⟨ad, rfl, by simpa using hlt, ?_⟩
  rw [World.cell?_setCell_other]
  · exact hc
  · intro e
    have e2 : (ad.add j).block = ad.block := by unfold Addr.add; split <;> rfl
    exact hne ad rfl (by rw [← e2, ← e])
/-- what the loops over the code points keep: the sum in its box, the code points, and all that lay before -/
def SumAt (w : World) (B : Nat) (A : Option Addr) (codes : List Int) (t : Int) (W : World) : Prop :=
  Boxed W B 3 (.int .i64 t) ∧ Rd W A (cI codes) ∧ ((∀ ad, A = some ad → ad.block ≠ B) ∧ w.heap.size ≤ B) ∧ Below w.heap.size w W
theorem SumAt.add {w W w1 : World} {B : Nat} {A : Option Addr} {codes : List Int} {t t2 : Int} (h : SumAt w B A codes t W) (hb : Below W.heap.size W w1) : SumAt w B A codes t2 (w1.setCell ⟨B, 0, none⟩ (.int .i64 t2)) := by
  obtain ⟨h1, h2, h3, h4⟩ := h
  have b1 : Boxed w1 B 3 (.int .i64 t) := (hb.block _ h1.lt).trans h1
  exact ⟨b1.set _, rd_setCell (h2.below hb) h3.1 _, h3, (h4.trans (hb.mono h4.size)).setCell (p := ⟨B, 0, none⟩) h3.2 _⟩
theorem own_addr {w : World} {base : Nat} {e : TypeId} {A : Option Addr} {n k c : Nat} {xs : List Value} (h : w.ownsRow base e 1 (.slice A n c) k xs) : ∀ ad, A = some ad → base ≤ ad.block := fun ad e => by
  subst e
  rcases h.2 with ⟨hv, _⟩ | ⟨g, cap, cur, hv, hg, _⟩
  · cases hv
  · injection hv with hv
    injection hv with hv
    subst hv
    exact hg
theorem own_lt {w : World} {base : Nat} {e : TypeId} {A : Option Addr} {n k c : Nat} {xs : List Value} (h : w.ownsRow base e 1 (.slice A n c) k xs) : ∀ ad, A = some ad → ad.block < w.heap.size := fun ad e => by
  subst e
  rcases h.2 with ⟨hv, _⟩ | ⟨g, cap, cur, hv, _, hh, _⟩
  · cases hv
  · injection hv with hv
    injection hv with hv
    subst hv
    exact (Array.getElem?_eq_some_iff.1 hh).1
theorem codes_len (s : ByteArray) (hs : s.size ≤ 100000) : (codesL s.data.toList).length ≤ 200001 := by
  have h1 := runL_len ([], []) s.data.toList
  have h2 := flushL_len (runL ([], []) s.data.toList).1
  simp only [List.length_nil, Array.length_toList] at h1
  unfold codesL
  rw [List.length_append]
  have : s.data.size = s.size := rfl
  omega

set_option maxRecDepth 100000 in
set_option maxHeartbeats 2000000 in
theorem wtext_any (s : ByteArray) (w : World) (h : Tb w) (hs : s.size ≤ 100000) :
    Calls Tryd.prog 13 #[.string s] w fun e w' => e = .returned (.int .i64 (colsL (codesL s.data.toList))) ∧ Below w.heap.size w w' := by
  have H := Lib.hid h; clear h
  have hlen := codes_len s hs
  go_enter Tryd.func13, Tryd.ntmps13
  go_wp2_with fail
  refine (adder_any _).mono ?_
  rintro e w0 ⟨rfl, hw0⟩
  have bx := Boxed.new w 3 (.int .i64 0)
  have hb0 : Below w.heap.size w (w.alloc (.cells #[.int .i64 0] 3)) := (Below.refl _ w).alloc (Nat.le_refl _) _
  have hsz : w0.heap.size = w.heap.size + 1 := by rw [hw0]; simp
  rw [← hw0] at bx hb0
  clear hw0
  have Hb := Lib.hid bx; clear bx
  have Hsz := Lib.hid hsz; clear hsz
  go_wp2_with fail
  refine (codes_any s _ ((H.out).keep hb0).1 hs).mono ?_
  rintro e w1 ⟨v, rfl, hown, hb1⟩
  obtain ⟨A, cp, hv, _, hr⟩ := own_slice hown
  rw [hv] at hown ⊢
  have hoa := own_addr hown
  obtain ⟨cs, hcs⟩ : ∃ cs, codesL s.data.toList = cs := ⟨_, rfl⟩
  rw [hcs] at hlen hr ⊢
  have HS := Lib.hid (show SumAt w w.heap.size A cs 0 w1 from ⟨(hb1.block _ (Hb.out).lt).trans Hb.out, hr, ⟨fun ad e => by have := hoa ad e; have := Hsz.out; omega, Nat.le_refl _⟩, hb0.trans (hb1.mono hb0.size)⟩)
  have Hcs := Lib.hid hcs
  clear hcs hr hown hv hb1 Hb hb0 Hsz hoa
  go_wp2_with fail
  go_loopw [3, 11] (fun t i wr => ∃ k : Nat, k ≤ cs.length ∧ i = .int .i64 k ∧ t = .int .i64 (colsL (cs.take k)) ∧ Hid (SumAt w w.heap.size A cs (colsL (cs.take k)) wr)) (fun _ i _ => cs.length - (intOf i).toNat)
  case atStart => exact ⟨0, Nat.zero_le _, rfl, rfl, HS⟩
  case round =>
    clear HS
    obtain ⟨k, hk, rfl, rfl, hid⟩ := hrel
    have hcb := colsL_bd (cs.take k)
    rw [List.length_take] at hcb
    by_cases hlt : k < cs.length
    · obtain ⟨z, hz⟩ : ∃ z, cs[k]? = some z := ⟨cs[k], by simp [hlt]⟩
      have hct := colsL_take cs k z hz
      obtain ⟨ad, rfl, hblk, hc⟩ := (hid.out.2.1) k _ (cI_at cs k z hz)
      clear hz
      obtain ⟨t, ht⟩ : ∃ t, colsL (cs.take k) = t := ⟨_, rfl⟩
      rw [ht] at hct hid hcb ⊢
      have Hct := Lib.hid hct; clear hct ht
      go_wp2_with fail
      refine (adder1_any z t _ _ ((H.out).keep hid.out.2.2.2) hid.out.1.cell hid.out.1.frozen hid.out.1.lt (by omega) (by omega)).mono ?_
      rintro e w2 ⟨rfl, w3, hb3, rfl⟩
      have HN := Lib.hid (hid.out.add (t2 := t + wp z) hb3)
      clear hb3 hid
      go_wp2
      go_roundw
      case rel => exact ⟨k + 1, by omega, by go_num, by rw [Hct.out], by rw [Hct.out]; exact HN⟩
      case measure => simp [intOf]; omega
    · have ht : cs.take k = cs := List.take_of_length_le (by omega)
      rw [ht] at hid hcb ⊢
      clear ht
      go_wp2
      go_ret
      exact ⟨by rw [Hcs.out]; rfl, hid.out.2.2.2⟩
end Go.Proofs.YtneikcpejejagaaDoor.Wid
