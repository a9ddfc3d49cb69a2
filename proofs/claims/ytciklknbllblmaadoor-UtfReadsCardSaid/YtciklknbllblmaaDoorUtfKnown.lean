/-
  The walk of the law UtfKnown: it returns true; nothing that lay before the call has turned.
-/
import Derived.Test.YtciklknbllblmaaDoorUtfM
import Derived.Test.YtciklknbllblmaaDoorUtfN
import Derived.Deep.RegionHeld3
namespace Go.Proofs.YtciklknbllblmaaDoor.Utf
open Go.RowKit

def kEnds : Array Value := #[.int .i64 0, .int .i64 127, .int .i64 128, .int .i64 2047, .int .i64 2048, .int .i64 65535, .int .i64 65536, .int .i64 1114111]
def kTexts : Array Value := #[.string ⟨#[0]⟩, .string ⟨#[127]⟩, .string ⟨#[194, 128]⟩, .string ⟨#[223, 191]⟩, .string ⟨#[224, 160, 128]⟩, .string ⟨#[239, 191, 191]⟩, .string ⟨#[240, 144, 128, 128]⟩, .string ⟨#[244, 143, 191, 191]⟩]
def kPair (k : Nat) : Int × List UInt8 := ([((0 : Int), ([0] : List UInt8)), (127, [127]), (128, [194, 128]), (2047, [223, 191]), (2048, [224, 160, 128]), (65535, [239, 191, 191]), (65536, [240, 144, 128, 128]), (1114111, [244, 143, 191, 191])])[k]?.getD (0, [])
theorem kPair_ok : ∀ k : Fin 8, encL (kPair k).1 = (kPair k).2 ∧ chk (kPair k).1 = true ∧ eqI (codesL (kPair k).2) [(kPair k).1] = true ∧ (kPair k).2.length ≤ 4 := by decide +kernel
theorem kEnds_at (k : Nat) (h : k < 8) : kEnds[k]? = some (.int .i64 (kPair k).1) := by
  rcases (show k = 0 ∨ k = 1 ∨ k = 2 ∨ k = 3 ∨ k = 4 ∨ k = 5 ∨ k = 6 ∨ k = 7 by omega) with rfl | rfl | rfl | rfl | rfl | rfl | rfl | rfl <;> rfl
theorem kTexts_at (k : Nat) (h : k < 8) : kTexts[k]? = some (.string ⟨(kPair k).2.toArray⟩) := by
  rcases (show k = 0 ∨ k = 1 ∨ k = 2 ∨ k = 3 ∨ k = 4 ∨ k = 5 ∨ k = 6 ∨ k = 7 by omega) with rfl | rfl | rfl | rfl | rfl | rfl | rfl | rfl <;> rfl
theorem blk2 (w : World) (X Y : Obj) : ((w.alloc X).alloc Y).heap[w.heap.size]? = some X ∧ ((w.alloc X).alloc Y).heap[w.heap.size + 1]? = some Y := by
  refine ⟨(Below.heap_alloc (w.alloc X) Y w.heap.size (by simp)).trans (heap_alloc_new w X), ?_⟩
  have := heap_alloc_new (w.alloc X) Y
  rwa [World.size_alloc] at this
theorem below_alloc' {B W : World} (h : Below B.heap.size B W) (o : Obj) : Below B.heap.size B (W.alloc o) := h.alloc h.size o

theorem up {B W W' : World} (hb : Below W.heap.size W W') (h : Below B.heap.size B W) : Below B.heap.size B W' := h.trans (hb.mono h.size)
theorem up5 {B W W' : World} (h : Below B.heap.size B W) (hb : Below W.heap.size W W') : Below B.heap.size B W' := h.trans (hb.mono h.size)
theorem right_yes (A : Option Addr) (c n : Nat) (bs : List UInt8) (q : Bool) (hn : bs.length = n) (w : World) (h : Rd w A (cB bs)) (hm : Mk w) (hc : bs.length ≤ c) (hs : bs.length ≤ 1000000) (ht : (bs.isEmpty || preB bs) = q) :
    Calls Tryd.prog 17 #[.slice A n c] w fun e w' => e = .returned (.bool q) ∧ Below w.heap.size w w' := by
  subst hn; subst ht; exact right_any A c bs w h hm hc hs
theorem check_yes (c : Int) (q : Bool) (ht : chk c = q) (w : World) : Calls Tryd.prog 10 #[.int .i64 c] w fun e w' => e = .returned (.bool q) ∧ w = w' := by
  subst ht; exact check_any c w

set_option maxRecDepth 100000 in
set_option maxHeartbeats 8000000 in
theorem known_any (w : World) (hm : Mk w) :
    Calls Tryd.prog 9 #[] w fun e w' => e = .returned (.bool true) ∧ Below w.heap.size w w' := by
  obtain ⟨i0, hi0, hz0, hz1, hz2⟩ := info_parts infoI
  have HM := Lib.hid hm; clear hm
  go_enter Tryd.func9, Tryd.ntmps9
  go_wp2_with fail
  obtain ⟨w2, hw2⟩ : ∃ w2, (w.alloc (.cells kEnds 44)).alloc (.cells kTexts 45) = w2 := ⟨_, rfl⟩
  have hB := blk2 w (.cells kEnds 44) (.cells kTexts 45)
  have hb2 : Below w.heap.size w w2 := by rw [← hw2]; exact ((Below.refl _ _).alloc (Nat.le_refl _) _).alloc (by simp) _
  have hsz : w2.heap.size = w.heap.size + 2 := by rw [← hw2]; simp
  rw [hw2] at hB
  have Hsz := Lib.hid hsz; clear hsz
  have HC := Lib.hid (show ∀ k, k < 8 → w2.cell? ⟨w.heap.size, k, none⟩ = some (.int .i64 (kPair k).1) ∧ w2.cell? ⟨w.heap.size + 1, k, none⟩ = some (.string ⟨(kPair k).2.toArray⟩) from
    fun k hk => ⟨(cell_of_row w2 w.heap.size k kEnds _ _ hB.1).trans (kEnds_at k hk), (cell_of_row w2 (w.heap.size + 1) k kTexts _ _ hB.2).trans (kTexts_at k hk)⟩)
  clear hB
  change Code.wp _ _ _ _ ((w.alloc (.cells kEnds 44)).alloc (.cells kTexts 45))
  rw [hw2]
  clear hw2
  go_loopw [3] (fun i wr => ∃ k : Nat, k ≤ 8 ∧ i = .int .i64 k ∧ Hid (Below w2.heap.size w2 wr)) (fun i _ => 8 - (intOf i).toNat)
  case atStart => exact ⟨0, by omega, rfl, Below.refl _ _⟩
  case round =>
    obtain ⟨k, hk, rfl, hid⟩ := hrel
    by_cases hlt : k < 8
    · obtain ⟨hc1, hc2⟩ := (HC.out) k hlt
      have hok := kPair_ok ⟨k, hlt⟩
      simp only at hok
      obtain ⟨⟨e0, l0⟩, he0⟩ : ∃ x, kPair k = x := ⟨_, rfl⟩
      rw [he0] at hc1 hc2 hok
      simp only at hc1 hc2 hok
      obtain ⟨ho1, ho2, ho3, ho4⟩ := hok
      have HK := Lib.hid (show ∀ W, Below wr.heap.size wr W → W.cell? ⟨w.heap.size, k, none⟩ = some (.int .i64 e0) ∧ W.cell? ⟨w.heap.size + 1, k, none⟩ = some (.string ⟨l0.toArray⟩) ∧ Below wr.heap.size wr W from fun W hW => by
        have hw' := hid.out.trans (hW.mono hid.out.size)
        have h0 := Hsz.out
        exact ⟨(hw'.cell (p := ⟨w.heap.size, k, none⟩) (by show w.heap.size < w2.heap.size; omega)).trans hc1, (hw'.cell (p := ⟨w.heap.size + 1, k, none⟩) (by show w.heap.size + 1 < w2.heap.size; omega)).trans hc2, hW⟩)
      obtain ⟨d1, d2, _⟩ := HK.out wr (Below.refl _ _)
      have HMr := Lib.hid (((HM.out).keep hb2).keep hid.out)
      have Ho1 := Lib.hid ho1
      have Ho2 := Lib.hid ho2
      have Ho3 := Lib.hid ho3
      clear ho1 ho2 ho3 hc1 hc2 he0
      have i1 : (0 : Int) ≤ (k : Int) := by omega
      have i2 : (k : Int) < 8 := by omega
      go_wp2_with fail
      go_region_held3 (fun W => W.cell? ⟨w.heap.size, k, none⟩ = some (.int .i64 e0) ∧ W.cell? ⟨w.heap.size + 1, k, none⟩ = some (.string ⟨l0.toArray⟩) ∧ Below wr.heap.size wr W)
        (first
          | exact HK.out _ ((Below.refl _ _).drew)
          | exact HK.out _ (by assumption)
          | exact HK.out _ (below_alloc' (And.right (And.right (by assumption))) _)
          | assumption)
        (first
          | (go_at_call 12; refine (put_yes e0 l0 Ho1.out _ ((HMr.out).keep (And.right (And.right (by assumption))))).mono ?_; rintro e w3 ⟨rfl, hb3⟩; have hb4 : Below wr.heap.size wr w3 := up hb3 (And.right (And.right (by assumption))))
          | (go_at_call 10; refine (check_yes e0 true Ho2.out _).mono ?_; rintro e w4 ⟨rfl, rfl⟩)
          | (go_at_call 26; refine (is_yes ⟨l0.toArray⟩ _ 1 1 [e0] rfl _ (Rd.one _ _ _) ((HMr.out).keep (And.right (And.right (by assumption)))) (by show l0.length ≤ _; omega) Ho3.out).mono ?_; rintro e w5 ⟨rfl, hb5⟩; have hb6 : Below wr.heap.size wr w5 := up hb5 (And.right (And.right (by assumption)))))
      have hbn := Lib.hid (hid.out.trans (hb6.mono hid.out.size))
      clear hb3 hb4 hb5 hb6 d1 d2
      go_wp2
      go_roundw
      case rel => exact ⟨k + 1, by omega, by go_num, hbn⟩
      case measure => simp [intOf]; omega
    · obtain rfl : 8 = k := by omega
      have hb3 : Below w.heap.size w wr := hb2.trans (hid.out.mono hb2.size)
      clear hlt hk hid HC Hsz hb2
      obtain ⟨wb, hwb⟩ : ∃ wb, wb = wr := ⟨_, rfl⟩
      obtain rfl := hwb
      rw [show ((8 : Nat) : Int) = (8 : Int) from rfl]
      have x0 : ∀ W, (Instr.index 45 (.agg #[.string ⟨#[224, 159]⟩, .string ⟨#[237, 160]⟩, .string ⟨#[240, 143]⟩, .string ⟨#[244, 144]⟩, .string ⟨#[193]⟩, .string ⟨#[245]⟩, .string ⟨#[128]⟩, .string ⟨#[97]⟩]) (.int .i64 0)).run Tryd.prog W = .ok (.string ⟨#[224, 159]⟩) W := fun _ => by kernel_rfl
      have x1 : ∀ W, (Instr.index 45 (.agg #[.string ⟨#[224, 159]⟩, .string ⟨#[237, 160]⟩, .string ⟨#[240, 143]⟩, .string ⟨#[244, 144]⟩, .string ⟨#[193]⟩, .string ⟨#[245]⟩, .string ⟨#[128]⟩, .string ⟨#[97]⟩]) (.int .i64 1)).run Tryd.prog W = .ok (.string ⟨#[237, 160]⟩) W := fun _ => by kernel_rfl
      have x2 : ∀ W, (Instr.index 45 (.agg #[.string ⟨#[224, 159]⟩, .string ⟨#[237, 160]⟩, .string ⟨#[240, 143]⟩, .string ⟨#[244, 144]⟩, .string ⟨#[193]⟩, .string ⟨#[245]⟩, .string ⟨#[128]⟩, .string ⟨#[97]⟩]) (.int .i64 2)).run Tryd.prog W = .ok (.string ⟨#[240, 143]⟩) W := fun _ => by kernel_rfl
      have x3 : ∀ W, (Instr.index 45 (.agg #[.string ⟨#[224, 159]⟩, .string ⟨#[237, 160]⟩, .string ⟨#[240, 143]⟩, .string ⟨#[244, 144]⟩, .string ⟨#[193]⟩, .string ⟨#[245]⟩, .string ⟨#[128]⟩, .string ⟨#[97]⟩]) (.int .i64 3)).run Tryd.prog W = .ok (.string ⟨#[244, 144]⟩) W := fun _ => by kernel_rfl
      have x4 : ∀ W, (Instr.index 45 (.agg #[.string ⟨#[224, 159]⟩, .string ⟨#[237, 160]⟩, .string ⟨#[240, 143]⟩, .string ⟨#[244, 144]⟩, .string ⟨#[193]⟩, .string ⟨#[245]⟩, .string ⟨#[128]⟩, .string ⟨#[97]⟩]) (.int .i64 4)).run Tryd.prog W = .ok (.string ⟨#[193]⟩) W := fun _ => by kernel_rfl
      have x5 : ∀ W, (Instr.index 45 (.agg #[.string ⟨#[224, 159]⟩, .string ⟨#[237, 160]⟩, .string ⟨#[240, 143]⟩, .string ⟨#[244, 144]⟩, .string ⟨#[193]⟩, .string ⟨#[245]⟩, .string ⟨#[128]⟩, .string ⟨#[97]⟩]) (.int .i64 5)).run Tryd.prog W = .ok (.string ⟨#[245]⟩) W := fun _ => by kernel_rfl
      have x6 : ∀ W, (Instr.index 45 (.agg #[.string ⟨#[224, 159]⟩, .string ⟨#[237, 160]⟩, .string ⟨#[240, 143]⟩, .string ⟨#[244, 144]⟩, .string ⟨#[193]⟩, .string ⟨#[245]⟩, .string ⟨#[128]⟩, .string ⟨#[97]⟩]) (.int .i64 6)).run Tryd.prog W = .ok (.string ⟨#[128]⟩) W := fun _ => by kernel_rfl
      have x7 : ∀ W, (Instr.index 45 (.agg #[.string ⟨#[224, 159]⟩, .string ⟨#[237, 160]⟩, .string ⟨#[240, 143]⟩, .string ⟨#[244, 144]⟩, .string ⟨#[193]⟩, .string ⟨#[245]⟩, .string ⟨#[128]⟩, .string ⟨#[97]⟩]) (.int .i64 7)).run Tryd.prog W = .ok (.string ⟨#[97]⟩) W := fun _ => by kernel_rfl
      go_wp2_with fail
      go_loopw [41] (fun i wr => ∃ k : Nat, k ≤ 8 ∧ i = .int .i64 k ∧ Hid (Below w.heap.size w wr)) (fun i _ => 8 - (intOf i).toNat)
      case atStart => exact ⟨0, by omega, rfl, hb3⟩
      case round =>
        obtain ⟨k, hk, rfl, hid⟩ := hrel
        rcases (show k = 0 ∨ k = 1 ∨ k = 2 ∨ k = 3 ∨ k = 4 ∨ k = 5 ∨ k = 6 ∨ k = 7 ∨ k = 8 by omega) with rfl | rfl | rfl | rfl | rfl | rfl | rfl | rfl | rfl
        · rw [show ((0 : Nat) : Int) = (0 : Int) from rfl]
          obtain ⟨c0, w5, hcv, hc0, hr0, hb5⟩ := bytes_of (P := Tryd.prog) wr 9 30 5 ⟨#[224, 159]⟩ Tryd.underlying9 Tryd.underlying30 Tryd.underlying5
          have HR := Lib.hid hr0; clear hr0
          have hb6 := up5 hid.out hb5
          go_wp2_with fail
          refine (right_yes _ c0 _ [224, 159] false rfl _ HR.out ((HM.out).keep hb6) hc0 (by decide) (by decide +kernel)).mono ?_
          rintro e w6 ⟨rfl, hb7⟩
          have hb8 := up5 hb6 hb7
          clear hb5 hb6 hb7 hcv
          go_wp2
          go_roundw
          case rel => exact ⟨1, by omega, by go_num, hb8⟩
          case measure => simp [intOf]
        · rw [show ((1 : Nat) : Int) = (1 : Int) from rfl]
          obtain ⟨c0, w5, hcv, hc0, hr0, hb5⟩ := bytes_of (P := Tryd.prog) wr 9 30 5 ⟨#[237, 160]⟩ Tryd.underlying9 Tryd.underlying30 Tryd.underlying5
          have HR := Lib.hid hr0; clear hr0
          have hb6 := up5 hid.out hb5
          go_wp2_with fail
          refine (right_yes _ c0 _ [237, 160] false rfl _ HR.out ((HM.out).keep hb6) hc0 (by decide) (by decide +kernel)).mono ?_
          rintro e w6 ⟨rfl, hb7⟩
          have hb8 := up5 hb6 hb7
          clear hb5 hb6 hb7 hcv
          go_wp2
          go_roundw
          case rel => exact ⟨2, by omega, by go_num, hb8⟩
          case measure => simp [intOf]
        · rw [show ((2 : Nat) : Int) = (2 : Int) from rfl]
          obtain ⟨c0, w5, hcv, hc0, hr0, hb5⟩ := bytes_of (P := Tryd.prog) wr 9 30 5 ⟨#[240, 143]⟩ Tryd.underlying9 Tryd.underlying30 Tryd.underlying5
          have HR := Lib.hid hr0; clear hr0
          have hb6 := up5 hid.out hb5
          go_wp2_with fail
          refine (right_yes _ c0 _ [240, 143] false rfl _ HR.out ((HM.out).keep hb6) hc0 (by decide) (by decide +kernel)).mono ?_
          rintro e w6 ⟨rfl, hb7⟩
          have hb8 := up5 hb6 hb7
          clear hb5 hb6 hb7 hcv
          go_wp2
          go_roundw
          case rel => exact ⟨3, by omega, by go_num, hb8⟩
          case measure => simp [intOf]
        · rw [show ((3 : Nat) : Int) = (3 : Int) from rfl]
          obtain ⟨c0, w5, hcv, hc0, hr0, hb5⟩ := bytes_of (P := Tryd.prog) wr 9 30 5 ⟨#[244, 144]⟩ Tryd.underlying9 Tryd.underlying30 Tryd.underlying5
          have HR := Lib.hid hr0; clear hr0
          have hb6 := up5 hid.out hb5
          go_wp2_with fail
          refine (right_yes _ c0 _ [244, 144] false rfl _ HR.out ((HM.out).keep hb6) hc0 (by decide) (by decide +kernel)).mono ?_
          rintro e w6 ⟨rfl, hb7⟩
          have hb8 := up5 hb6 hb7
          clear hb5 hb6 hb7 hcv
          go_wp2
          go_roundw
          case rel => exact ⟨4, by omega, by go_num, hb8⟩
          case measure => simp [intOf]
        · rw [show ((4 : Nat) : Int) = (4 : Int) from rfl]
          obtain ⟨c0, w5, hcv, hc0, hr0, hb5⟩ := bytes_of (P := Tryd.prog) wr 9 30 5 ⟨#[193]⟩ Tryd.underlying9 Tryd.underlying30 Tryd.underlying5
          have HR := Lib.hid hr0; clear hr0
          have hb6 := up5 hid.out hb5
          go_wp2_with fail
          refine (right_yes _ c0 _ [193] false rfl _ HR.out ((HM.out).keep hb6) hc0 (by decide) (by decide +kernel)).mono ?_
          rintro e w6 ⟨rfl, hb7⟩
          have hb8 := up5 hb6 hb7
          clear hb5 hb6 hb7 hcv
          go_wp2
          go_roundw
          case rel => exact ⟨5, by omega, by go_num, hb8⟩
          case measure => simp [intOf]
        · rw [show ((5 : Nat) : Int) = (5 : Int) from rfl]
          obtain ⟨c0, w5, hcv, hc0, hr0, hb5⟩ := bytes_of (P := Tryd.prog) wr 9 30 5 ⟨#[245]⟩ Tryd.underlying9 Tryd.underlying30 Tryd.underlying5
          have HR := Lib.hid hr0; clear hr0
          have hb6 := up5 hid.out hb5
          go_wp2_with fail
          refine (right_yes _ c0 _ [245] false rfl _ HR.out ((HM.out).keep hb6) hc0 (by decide) (by decide +kernel)).mono ?_
          rintro e w6 ⟨rfl, hb7⟩
          have hb8 := up5 hb6 hb7
          clear hb5 hb6 hb7 hcv
          go_wp2
          go_roundw
          case rel => exact ⟨6, by omega, by go_num, hb8⟩
          case measure => simp [intOf]
        · rw [show ((6 : Nat) : Int) = (6 : Int) from rfl]
          obtain ⟨c0, w5, hcv, hc0, hr0, hb5⟩ := bytes_of (P := Tryd.prog) wr 9 30 5 ⟨#[128]⟩ Tryd.underlying9 Tryd.underlying30 Tryd.underlying5
          have HR := Lib.hid hr0; clear hr0
          have hb6 := up5 hid.out hb5
          go_wp2_with fail
          refine (right_yes _ c0 _ [128] false rfl _ HR.out ((HM.out).keep hb6) hc0 (by decide) (by decide +kernel)).mono ?_
          rintro e w6 ⟨rfl, hb7⟩
          have hb8 := up5 hb6 hb7
          clear hb5 hb6 hb7 hcv
          go_wp2
          go_roundw
          case rel => exact ⟨7, by omega, by go_num, hb8⟩
          case measure => simp [intOf]
        · rw [show ((7 : Nat) : Int) = (7 : Int) from rfl]
          obtain ⟨c0, w5, hcv, hc0, hr0, hb5⟩ := bytes_of (P := Tryd.prog) wr 9 30 5 ⟨#[97]⟩ Tryd.underlying9 Tryd.underlying30 Tryd.underlying5
          have HR := Lib.hid hr0; clear hr0
          have hb6 := up5 hid.out hb5
          go_wp2_with fail
          refine (right_yes _ c0 _ [97] false rfl _ HR.out ((HM.out).keep hb6) hc0 (by decide) (by decide +kernel)).mono ?_
          rintro e w6 ⟨rfl, hb7⟩
          have hb8 := up5 hb6 hb7
          clear hb5 hb6 hb7 hcv
          go_wp2
          go_roundw
          case rel => exact ⟨8, by omega, by go_num, hb8⟩
          case measure => simp [intOf]
        · rw [show ((8 : Nat) : Int) = (8 : Int) from rfl]
          have h0 := hid.out
          clear hid x0 x1 x2 x3 x4 x5 x6 x7
          go_wp2_with fail
          refine (right_yes none 0 0 [] true rfl _ (Rd.nil _ _) ((HM.out).keep h0) (by decide) (by decide) (by decide +kernel)).mono ?_
          rintro e y1 ⟨rfl, hb⟩
          have h1 := up5 h0 hb
          clear hb h0
          go_wp2_with fail
          have ha := h1.alloc h1.size (.cells #[.int .u8 237, .int .u8 159] 5)
          refine (right_yes (some ⟨y1.heap.size, 0, none⟩) 2 2 [237, 159] true rfl _ (Rd.lit _ #[.int .u8 237, .int .u8 159] _) ((HM.out).keep ha) (by decide) (by decide) (by decide +kernel)).mono ?_
          rintro e y2 ⟨rfl, hb⟩
          have h2 := up5 ha hb
          clear hb ha h1
          go_wp2_with fail
          have ha := h2.alloc h2.size (.cells #[.int .u8 240, .int .u8 144, .int .u8 128] 5)
          refine (right_yes (some ⟨y2.heap.size, 0, none⟩) 3 3 [240, 144, 128] true rfl _ (Rd.lit _ #[.int .u8 240, .int .u8 144, .int .u8 128] _) ((HM.out).keep ha) (by decide) (by decide) (by decide +kernel)).mono ?_
          rintro e y3 ⟨rfl, hb⟩
          have h3 := up5 ha hb
          clear hb ha h2
          go_wp2_with fail
          have ha := h3.alloc h3.size (.cells #[.int .u8 194] 5)
          refine (right_yes (some ⟨y3.heap.size, 0, none⟩) 1 1 [194] true rfl _ (Rd.lit _ #[.int .u8 194] _) ((HM.out).keep ha) (by decide) (by decide) (by decide +kernel)).mono ?_
          rintro e y4 ⟨rfl, hb⟩
          have h4 := up5 ha hb
          clear hb ha h3
          go_wp2_with fail
          have ha := h4.alloc h4.size (.cells #[.int .u8 194, .int .u8 128] 5)
          refine (right_yes (some ⟨y4.heap.size, 0, none⟩) 2 2 [194, 128] false rfl _ (Rd.lit _ #[.int .u8 194, .int .u8 128] _) ((HM.out).keep ha) (by decide) (by decide) (by decide +kernel)).mono ?_
          rintro e y5 ⟨rfl, hb⟩
          have h5 := up5 ha hb
          clear hb ha h4
          go_wp2_with fail
          refine (check_yes _ false (by decide +kernel) _).mono ?_
          rintro e y ⟨rfl, rfl⟩
          go_wp2_with fail
          refine (check_yes _ false (by decide +kernel) _).mono ?_
          rintro e y ⟨rfl, rfl⟩
          go_wp2_with fail
          refine (check_yes _ false (by decide +kernel) _).mono ?_
          rintro e y ⟨rfl, rfl⟩
          go_wp2_with fail
          refine (check_yes _ false (by decide +kernel) _).mono ?_
          rintro e y ⟨rfl, rfl⟩
          go_wp2_with fail
          refine (check_yes _ true (by decide +kernel) _).mono ?_
          rintro e y ⟨rfl, rfl⟩
          go_wp2_with fail
          refine (check_yes _ true (by decide +kernel) _).mono ?_
          rintro e y ⟨rfl, rfl⟩
          go_wp2_with fail
          refine (works_any _ ((HM.out).keep h5)).mono ?_
          rintro e y6 ⟨rfl, hb⟩
          have h6 := up5 h5 hb
          clear hb h5
          go_wp2_with fail
          have ha := h6.alloc h6.size (.cells #[.int .i64 65] 3)
          refine (steps_yes ⟨#[194, 128]⟩ ⟨#[]⟩ _ 65 (by decide +kernel) (some ⟨y6.heap.size, 0, none⟩) 1 1 [65] rfl _ (Rd.lit _ #[.int .i64 65] _) ((HM.out).keep ha) (by decide +kernel) (by decide +kernel)).mono ?_
          rintro e y7 ⟨rfl, hb⟩
          have h7 := up5 ha hb
          clear hb ha h6
          go_wp2_with fail
          have ha := h7.alloc h7.size (.cells #[.int .i64 65533] 3)
          refine (steps_yes ⟨#[240, 159]⟩ ⟨#[240]⟩ _ 240 (by decide +kernel) (some ⟨y7.heap.size, 0, none⟩) 1 1 [65533] rfl _ (Rd.lit _ #[.int .i64 65533] _) ((HM.out).keep ha) (by decide +kernel) (by decide +kernel)).mono ?_
          rintro e y8 ⟨rfl, hb⟩
          have h8 := up5 ha hb
          clear hb ha h7
          go_wp2_with fail
          refine (codes_any ⟨#[]⟩ _ ((HM.out).keep h8) (by decide +kernel)).mono ?_
          rintro e y9 ⟨v0, rfl, hown, hb⟩
          have h9 := up5 h8 hb
          obtain ⟨A0, c0, hv0, _, _⟩ := own_slice hown
          rw [show codesL (⟨#[]⟩ : ByteArray).data.toList = [] from by decide +kernel] at hv0
          rw [hv0, show ([] : List Int).length = 0 from rfl]
          clear hb h8 hown hv0
          go_wp2_with fail
          refine (text_any none 0 [] _ (Rd.nil _ _) ((HM.out).keep h9) (by decide)).mono ?_
          rintro e y10 ⟨rfl, hb⟩
          have h10 := up5 h9 hb
          clear hb h9
          rw [show textL [] = [] from rfl]
          go_wp2
          go_ret
          exact ⟨rfl, h10⟩
end Go.Proofs.YtciklknbllblmaaDoor.Utf
