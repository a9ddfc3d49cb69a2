/-
  ColD
-/
import Derived.Lib.SlBytesConst
import Derived.Laws.IdiomStrings
import Derived.Laws.OwnMore
import Derived.Test.YtoilcigmpeaedaaGreatDoorF0
import Derived.Test.YtoilcigmpeaedaaGreatDoorF3
import Derived.Test.YtoilcigmpeaedaaGreatDoorF16
namespace Go.Proofs.YtoilcigmpeaedaaGreatDoor.Col
open Go.RowKit Utf

def hexS : ByteArray := ⟨#[48, 49, 50, 51, 52, 53, 54, 55, 56, 57, 97, 98, 99, 100, 101, 102]⟩
theorem hex_run (d : Nat) (h : d < 16) (w : World) : (Instr.index 9 (.string ⟨#[48, 49, 50, 51, 52, 53, 54, 55, 56, 57, 97, 98, 99, 100, 101, 102]⟩) (.int .i64 (d : Int))).run Tryz.prog w = .ok (.int .u8 ((hexD d).toNat : Int)) w := by
  have : ∀ d : Fin 16, ∀ h : d.val < hexS.size, hexS[d.val] = hexD d.val := by decide +kernel
  rw [run_index_string w _ _ _ _ Tryz.underlying9, dif_pos ⟨by omega, by show (d : Int) < 16; omega⟩]
  have := this ⟨d, h⟩ h
  rw [← this]
  rfl
/-- what Text answers -/
def txtV (k n : Int) : Value := .tuple #[.string (txtC k n), .int .i64 (txtE k n)]
theorem txtV_bad (k n : Int) (h : okC k n = false) : Value.tuple #[.string ⟨#[]⟩, .int .i64 130] = txtV k n := by
  rw [txtV, txtC, txtE, rgbC, h]; rfl
theorem txtV_none : Value.tuple #[.string ⟨#[]⟩, .int .i64 2] = txtV 0 0 := rfl
theorem txtV_some (k n : Int) (x : Nat) (h : okC k n = true) (hk : k ≠ 0) (hx : rgbC k n = some (x : Int)) : Value.tuple #[.string ⟨(txt x).toArray⟩, .int .i64 0] = txtV k n := by
  rw [txtV, txtC, txtE, hx, h, if_pos rfl, if_neg hk]; rfl
theorem rgbV_is (k n x : Int) (h : rgbC k n = some x) : rgbV k n = .tuple #[.int .i64 x, .bool true] := (rgbV_some k n x h).symm

set_option maxRecDepth 100000 in
set_option maxHeartbeats 4000000 in
theorem text_any (k n : Int) (w : World) (h : Tc w) : Calls Tryz.prog 25 #[colV k n] w fun e w' => e = .returned (txtV k n) ∧ Below w.heap.size w w' := by
  have H := Lib.hid h; clear h
  cases ho : okC k n with
  | false =>
    have hf := Lib.hid (txtV_bad k n ho)
    have he := Lib.hid (show errC k n = 130 by rw [errC, ho]; rfl)
    clear ho
    unfold colV
    go_enter Tryz.func25, Tryz.ntmps25
    go_wp2_with fail
    refine (check_any k n _ ((H.out).keep (below_box _ _))).mono ?_
    rw [he.out]
    rintro e w1 ⟨rfl, hb1⟩
    go_wp2
    go_ret2
    exact ⟨congrArg _ hf.out, (below_box _ _).trans (hb1.mono (by simp))⟩
  | true =>
    have he := Lib.hid (show errC k n = 0 by rw [errC, ho]; rfl)
    by_cases hk : k = 0
    · subst hk
      obtain rfl : n = 0 := by have := ok_cases 0 n ho; omega
      have hf := Lib.hid (txtV_none)
      have hr := Lib.hid (rgbV_none 0 0 rfl)
      clear ho
      unfold colV
      go_enter Tryz.func25, Tryz.ntmps25
      go_wp2_with fail
      refine (check_any 0 0 _ ((H.out).keep (below_box _ _))).mono ?_
      rw [he.out]
      rintro e w1 ⟨rfl, hb1⟩
      have c0 := (hb1.cell (p := ⟨w.heap.size, 0, none⟩) (by simp))
      have c1 := (hb1.cell (p := ⟨w.heap.size, 1, none⟩) (by simp))
      have hb2 : Below w.heap.size w w1 := (below_box _ _).trans (hb1.mono (by simp))
      go_wp2_with fail
      refine (rgb_any 0 0 _ ((H.out).keep hb2)).mono ?_
      rw [← hr.out]
      rintro e w2 ⟨rfl, hb3⟩
      go_wp2
      go_ret2
      exact ⟨congrArg _ hf.out, hb2.trans (hb3.mono hb2.size)⟩
    · obtain ⟨x, hx⟩ : ∃ x : Nat, rgbC k n = some (x : Int) := by
        rcases ok_cases k n ho with ⟨rfl, _⟩ | ⟨rfl, h1, h2⟩ | ⟨rfl, h1, h2⟩
        · omega
        · refine ⟨(pal n.toNat).toNat, ?_⟩
          rw [rgbC, ho, if_pos rfl, if_neg (by omega), if_pos rfl, Int.toNat_of_nonneg (pal_bd _ (by omega)).1]
        · refine ⟨n.toNat, ?_⟩
          rw [rgbC, ho, if_pos rfl, if_neg (by omega), if_neg (by omega), Int.toNat_of_nonneg h1]
      have hxb := (rgbC_bd k n x hx).2
      have hf := Lib.hid (txtV_some k n x ho hk hx)
      have hr := Lib.hid (rgbV_is k n x hx)
      clear ho hk hx
      unfold colV
      go_enter Tryz.func25, Tryz.ntmps25
      go_wp2_with fail
      refine (check_any k n _ ((H.out).keep (below_box _ _))).mono ?_
      rw [he.out]
      rintro e w1 ⟨rfl, hb1⟩
      have c0 := (hb1.cell (p := ⟨w.heap.size, 0, none⟩) (by simp))
      have c1 := (hb1.cell (p := ⟨w.heap.size, 1, none⟩) (by simp))
      have hb2 : Below w.heap.size w w1 := (below_box _ _).trans (hb1.mono (by simp))
      go_wp2_with fail
      refine (rgb_any k n _ ((H.out).keep hb2)).mono ?_
      rw [hr.out]
      rintro e w2 ⟨rfl, hb3⟩
      have hb4 := hb2.trans (hb3.mono hb2.size)
      clear c0 c1 hb1 hb2 hb3
      have kc := fun (w : World) (C : Array Value) (n c : Nat) => Lib.run_convert_bytes_const (P := Tryz.prog) w 38 5 C n c Tryz.underlying38 Tryz.underlying5
      go_wp2_with fail
      clear kc
      have hR : Row (w2.alloc (.cells #[.int .u8 114, .int .u8 103, .int .u8 98, .int .u8 58, .int .u8 104, .int .u8 104, .int .u8 47, .int .u8 104, .int .u8 104, .int .u8 47, .int .u8 104, .int .u8 104] 5 (12, 13))) w2.heap.size formL := row_new w2 _ _ _ (by decide) (fun j b hj => by
        have hl : j < 12 := (List.getElem?_eq_some_iff.1 hj).1
        rcases (show j = 0 ∨ j = 1 ∨ j = 2 ∨ j = 3 ∨ j = 4 ∨ j = 5 ∨ j = 6 ∨ j = 7 ∨ j = 8 ∨ j = 9 ∨ j = 10 ∨ j = 11 by omega) with rfl | rfl | rfl | rfl | rfl | rfl | rfl | rfl | rfl | rfl | rfl | rfl <;> (cases hj; rfl))
      have hB : Below w.heap.size w (w2.alloc (.cells #[.int .u8 114, .int .u8 103, .int .u8 98, .int .u8 58, .int .u8 104, .int .u8 104, .int .u8 47, .int .u8 104, .int .u8 104, .int .u8 47, .int .u8 104, .int .u8 104] 5 (12, 13))) := hb4.alloc hb4.size _
      generalize w2.alloc (.cells #[.int .u8 114, .int .u8 103, .int .u8 98, .int .u8 58, .int .u8 104, .int .u8 104, .int .u8 47, .int .u8 104, .int .u8 104, .int .u8 47, .int .u8 104, .int .u8 104] 5 (12, 13)) = w3 at hR hB ⊢
      have hG := hb4.size
      generalize w2.heap.size = G at hR hG ⊢
      have HI := Lib.hid (And.intro hR hB)
      clear hR hB hb4
      go_loopw [5, 8] (fun r i wr => ∃ m q : Nat, m + q = 12 ∧ i = .int .i64 ((q : Int) - 1) ∧ r = .int .i64 (remN x m : Int) ∧ Hid (Row wr G (stL x m) ∧ Below w.heap.size w wr)) (fun _ i _ => ((intOf i) + 1).toNat)
      case atStart => exact ⟨0, 12, rfl, rfl, rfl, HI⟩
      case round =>
        clear HI
        obtain ⟨m, q, hmq, rfl, rfl, hid⟩ := hrel
        cases q with
        | succ q =>
          rw [show ((q + 1 : Nat) : Int) - 1 = (q : Int) by omega]
          have hq : q < 12 := by omega
          obtain ⟨f, hfq⟩ : ∃ f, formL[q]? = some f := ⟨formL[q]'hq, List.getElem?_eq_getElem hq⟩
          have hc := hid.out.1.cell q f (by rw [stL_at x m q (by omega)]; exact hfq)
          have hfz := hid.out.1.frozen q (by rw [stL_len]; omega)
          have hlG := hid.out.1.lt
          have hq1 : 11 - m = q := by omega
          have hrl := remN_le x m
          by_cases hh : f = 104
          · subst hh
            have e1 := Lib.hid (show remN x (m + 1) = remN x m / 16 by rw [remN, hq1, if_pos hfq])
            have e2 := Lib.hid (show stL x (m + 1) = (stL x m).set q (hexD (remN x m % 16)) by rw [stL, hq1, if_pos hfq])
            clear hfq
            obtain ⟨r, hr⟩ : ∃ r, remN x m = r := ⟨_, rfl⟩
            rw [hr] at e1 e2 hrl ⊢
            obtain ⟨d, hd⟩ : ∃ d, r % 16 = d := ⟨_, rfl⟩
            rw [hd] at e2
            have hd1 : (r : Int) % 16 = (d : Int) := by omega
            have hd2 : d < 16 := by omega
            have hx := fun w => hex_run d hd2 w
            clear hd hr
            have hc2 : wr.cell? ⟨G, q, none⟩ = some (.int .u8 104) := hc
            clear hc
            go_wp2
            go_roundw
            case rel => exact ⟨m + 1, q, by omega, by go_num, by rw [e1.out]; go_num, by rw [e2.out]; exact ⟨hid.out.1.set q _, hid.out.2.setCell (p := ⟨G, q, none⟩) hG _⟩⟩
            case measure => simp [intOf]
          · have e1 := Lib.hid (show remN x (m + 1) = remN x m by rw [remN, hq1, if_neg (by rw [hfq]; intro e; cases e; exact hh rfl)])
            have e2 := Lib.hid (show stL x (m + 1) = stL x m by rw [stL, hq1, if_neg (by rw [hfq]; intro e; cases e; exact hh rfl)])
            have hne : ((f.toNat : Int) == 104) = false := by
              rw [beq_eq_false_iff_ne]
              intro e
              exact hh (UInt8.toNat_inj.1 (by show f.toNat = 104; omega))
            clear hfq hh
            obtain ⟨r, hr⟩ : ∃ r, remN x m = r := ⟨_, rfl⟩
            rw [hr] at e1 hrl ⊢
            clear hr
            go_wp2
            go_roundw
            case rel => exact ⟨m + 1, q, by omega, by go_num, by rw [e1.out], by rw [e2.out]; exact hid⟩
            case measure => simp [intOf]
        | zero =>
          obtain rfl : m = 12 := by omega
          have hrow := hid.out.1
          rw [stL_end] at hrow
          have hcv := run_str (P := Tryz.prog) wr 38 9 5 ⟨G, 0, none⟩ 12 12 (txt x) rfl Tryz.underlying38 Tryz.underlying5 Tryz.underlying9 hrow.rd
          have hb5 := hid.out.2
          rw [show (((0 : Nat) : Int)) - 1 = -1 from rfl]
          obtain ⟨r, hr⟩ : ∃ r, remN x 12 = r := ⟨_, rfl⟩
          rw [hr]
          clear hrow hid hr
          go_wp2
          go_ret2
          exact ⟨congrArg _ hf.out, hb5⟩
end Go.Proofs.YtoilcigmpeaedaaGreatDoor.Col
