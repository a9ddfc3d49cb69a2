/-
  The walk of the law ColorBack: it returns true, whatever its arguments; nothing that lay before the call has turned.
-/
import Derived.Test.YtddgigiajenmkaaDoorColF
import Derived.Deep.RegionHeld3
import Derived.Lib.SmallJoins
namespace Go.Proofs.YtddgigiajenmkaaDoor.Col
open Go.RowKit Utf

/-- a box with a color of known cells -/
def Bk (w : World) (B : Nat) (a b : Int) : Prop := B < w.heap.size ∧ w.cell? ⟨B, 0, none⟩ = some (.int .i64 a) ∧ w.cell? ⟨B, 1, none⟩ = some (.int .i64 b)
theorem Bk.keep {w w' : World} {B : Nat} {a b : Int} (h : Bk w B a b) (hb : Below w.heap.size w w') : Bk w' B a b :=
  ⟨Nat.lt_of_lt_of_le h.1 hb.size, (hb.cell (p := ⟨B, 0, none⟩) h.1).trans h.2.1, (hb.cell (p := ⟨B, 1, none⟩) h.1).trans h.2.2⟩
theorem bk_new (w : World) (a b : Int) (t : TypeId) : Bk (w.alloc (.cells #[.int .i64 a, .int .i64 b] t)) w.heap.size a b := by
  have hbx : (w.alloc (.cells #[.int .i64 a, .int .i64 b] t)).heap[w.heap.size]? = some (.cells #[.int .i64 a, .int .i64 b] t (0, 0)) := heap_alloc_new w _
  exact ⟨by simp, (Joins.cell_of_block hbx 0).trans rfl, (Joins.cell_of_block hbx 1).trans rfl⟩
theorem Bk.other {w : World} {B : Nat} {a b : Int} (h : Bk w B a b) (G k : Nat) (v : Value) (hne : G ≠ B) : Bk (w.setCell ⟨G, k, none⟩ v) B a b :=
  ⟨by simpa using h.1, (World.cell?_setCell_other _ _ _ _ (by intro e; cases e; exact hne rfl)).trans h.2.1, (World.cell?_setCell_other _ _ _ _ (by intro e; cases e; exact hne rfl)).trans h.2.2⟩
/-- as the text of x, but that digits may be of the other case -/
def Like (x : Nat) (bs : List UInt8) : Prop := bs.length = 12 ∧ ∀ (j : Nat) (b c : UInt8), bs[j]? = some b → (txt x)[j]? = some c → b = c ∨ (4 ≤ j ∧ dig b = dig c ∧ (dig c).isSome = true)
theorem like_self (x : Nat) : Like x (txt x) := ⟨rfl, fun j b c hb hc => .inl (by rw [hb] at hc; cases hc; rfl)⟩
theorem hexD_some (d : Nat) (h : d < 16) : (dig (hexD d)).isSome = true := by rw [dig_hex d h]; rfl
theorem txt_hex (x j : Nat) (c : UInt8) (h4 : 4 ≤ j) (hc : (txt x)[j]? = some c) : c = 47 ∨ (dig c).isSome = true := by
  have hj : j < 12 := (List.getElem?_eq_some_iff.1 hc).1
  rcases (show j = 4 ∨ j = 5 ∨ j = 6 ∨ j = 7 ∨ j = 8 ∨ j = 9 ∨ j = 10 ∨ j = 11 by omega) with rfl | rfl | rfl | rfl | rfl | rfl | rfl | rfl <;> cases hc
  · exact .inr (hexD_some _ (by omega))
  · exact .inr (hexD_some _ (by omega))
  · exact .inl rfl
  · exact .inr (hexD_some _ (by omega))
  · exact .inr (hexD_some _ (by omega))
  · exact .inl rfl
  · exact .inr (hexD_some _ (by omega))
  · exact .inr (hexD_some _ (by omega))
theorem up_all : ∀ n : Fin 256, 97 ≤ n.val → (dig (UInt8.ofNat n.val)).isSome = true → dig (UInt8.ofNat (n.val - 32)) = dig (UInt8.ofNat n.val) := by decide +kernel
theorem up_dig (b : UInt8) (h : 97 ≤ b.toNat) (hs : (dig b).isSome = true) : dig (UInt8.ofNat (b.toNat - 32)) = dig b := by
  have := up_all ⟨b.toNat, b.toNat_lt⟩ h
  rw [show UInt8.ofNat b.toNat = b by simp] at this
  exact this hs
theorem like_set (x : Nat) (bs : List UInt8) (h : Like x bs) (k : Nat) (b : UInt8) (h4 : 4 ≤ k) (hk : k < 12) (hb : bs[k]? = some b) (h97 : 97 ≤ b.toNat) : Like x (bs.set k (UInt8.ofNat (b.toNat - 32))) := by
  refine ⟨by rw [List.length_set]; exact h.1, fun j b' c hb' hc => ?_⟩
  by_cases e : k = j
  · subst e
    rw [List.getElem?_set_self (by rw [h.1]; exact hk)] at hb'
    cases hb'
    refine .inr ⟨h4, ?_⟩
    rcases h.2 k b c hb hc with rfl | ⟨_, e1, e2⟩
    · rcases txt_hex x k b h4 hc with rfl | hs
      · exact absurd h97 (by decide)
      · exact ⟨up_dig b h97 hs, hs⟩
    · exact ⟨(up_dig b h97 (by rw [e1]; exact e2)).trans e1, e2⟩
  · rw [List.getElem?_set_ne e] at hb'
    exact h.2 j b' c hb' hc
theorem like_parse (x : Nat) (bs : List UInt8) (h : Like x bs) (hx : x ≤ 16777215) : parseL bs = some x := by
  obtain ⟨hl, hp⟩ := h
  match bs, hl with
  | [b0, b1, b2, b3, b4, b5, b6, b7, b8, b9, b10, b11], _ =>
    have fix : ∀ (j : Nat) (b c : UInt8), [b0, b1, b2, b3, b4, b5, b6, b7, b8, b9, b10, b11][j]? = some b → (txt x)[j]? = some c → (j < 4 ∨ dig c = none) → b = c := fun j b c hb hc hj => by
      rcases hp j b c hb hc with e | ⟨e1, _, e3⟩
      · exact e
      · rcases hj with hj | hj
        · omega
        · rw [hj] at e3; cases e3
    have dg : ∀ (j : Nat) (b : UInt8) (d : Nat), [b0, b1, b2, b3, b4, b5, b6, b7, b8, b9, b10, b11][j]? = some b → (txt x)[j]? = some (hexD d) → d < 16 → dig b = some d := fun j b d hb hc hd => by
      rcases hp j b _ hb hc with e | ⟨_, e, _⟩
      · rw [e]; exact dig_hex d hd
      · rw [e]; exact dig_hex d hd
    obtain rfl := fix 0 b0 114 rfl rfl (.inl (by omega))
    obtain rfl := fix 1 b1 103 rfl rfl (.inl (by omega))
    obtain rfl := fix 2 b2 98 rfl rfl (.inl (by omega))
    obtain rfl := fix 3 b3 58 rfl rfl (.inl (by omega))
    obtain rfl := fix 6 b6 47 rfl rfl (.inr (by decide))
    obtain rfl := fix 9 b9 47 rfl rfl (.inr (by decide))
    rw [parse_form _ _ _ _ _ _ _ _ _ _ _ _ (dg 4 b4 _ rfl rfl (by omega)) (dg 5 b5 _ rfl rfl (by omega)) (dg 7 b7 _ rfl rfl (by omega)) (dg 8 b8 _ rfl rfl (by omega)) (dg 10 b10 _ rfl rfl (by omega)) (dg 11 b11 _ rfl rfl (by omega))]
    congr 1
    omega
theorem u8sub (b : UInt8) (h : 97 ≤ b.toNat) : (b.toNat : Int) - 32 = ((UInt8.ofNat (b.toNat - 32)).toNat : Int) := by
  have := b.toNat_lt
  rw [UInt8.toNat_ofNat']; omega
theorem mod24b (n : Int) : ∃ x : Nat, x ≤ 16777215 ∧ n % 16777216 = (x : Int) := ⟨(n % 16777216).toNat, by omega, by omega⟩
theorem okC_x (x : Nat) (h : x ≤ 16777215) : okC 2 (x : Int) = true := by simp [okC]; omega
theorem okC_i (i : Nat) (h : i < 256) : okC 1 (i : Int) = true := by simp [okC]; omega
theorem rgbC_xx (x : Nat) (h : x ≤ 16777215) : rgbC 2 (x : Int) = some (x : Int) := by
  rw [rgbC, okC_x x h, if_pos rfl, if_neg (by omega), if_neg (by omega)]
theorem rgbC_ii (i : Nat) (h : i < 256) : rgbC 1 (i : Int) = some (pal i) := by
  rw [rgbC, okC_i i h, if_pos rfl, if_neg (by omega), if_pos rfl, Int.toNat_natCast]
theorem txtC_x (x : Nat) (h : x ≤ 16777215) : txtC 2 (x : Int) = ⟨(txt x).toArray⟩ := by rw [txtC, rgbC_xx x h]; rfl
theorem txtC_i (i : Nat) (h : i < 256) : txtC 1 (i : Int) = ⟨(txt (pal i).toNat).toArray⟩ := by rw [txtC, rgbC_ii i h]
theorem txtE_x (k x : Int) (h : okC k x = true) (hk : k ≠ 0) : txtE k x = 0 := by rw [txtE, h, if_pos rfl, if_neg hk]
set_option maxRecDepth 100000 in
set_option maxHeartbeats 8000000 in
theorem back_any (n gr : Int) (ib : UInt8) (w : World) (h : Tc w) (n0 : 0 ≤ n) (n1 : n ≤ 4294967295) (_g0 : 0 ≤ gr) (_g1 : gr ≤ 65535) : Calls Tryd.prog 7 #[.int .u32 n, .int .u16 gr, .int .u8 (ib.toNat : Int)] w fun e w' => e = .returned (.bool true) ∧ Below w.heap.size w w' := by
  have H := Lib.hid h; clear h
  have h0 : Below w.heap.size w w := Below.refl _ _
  obtain ⟨x, hx, hnx⟩ := mod24b n
  have i255 : ib.toNat < 256 := ib.toNat_lt
  have TX := Lib.hid (txtC_x x hx)
  have TE := Lib.hid (txtE_x 2 x (okC_x x hx) (by omega))
  have PX := Lib.hid (parse_txt x (by omega))
  go_enter Tryd.func7, Tryd.ntmps7
  go_wp2_with fail
  refine (works_any _ ((H.out).keep h0)).mono ?_
  rintro e w1 ⟨rfl, hb1⟩
  have h1 := h0.trans (hb1.mono h0.size)
  clear hb1 h0
  go_wp2_with fail
  rw [hnx]
  refine (lrgb_any _ _).mono ?_
  rintro e w2 ⟨rfl, hb2⟩
  have h2 := h1.trans (hb2.mono h1.size)
  clear hb2 h1
  go_wp2_with fail
  have h3 := h2.alloc h2.size (.cells #[.int .i64 2, .int .i64 (x : Int)] 23)
  have q3 := bk_new w2 2 x 23
  have hB1 := h2.size
  generalize w2.alloc (.cells #[.int .i64 2, .int .i64 (x : Int)] 23) = w3 at h3 q3 ⊢
  generalize w2.heap.size = B1 at q3 hB1 ⊢
  clear h2
  refine (text_is 2 x _ 0 TX.out TE.out _ ((H.out).keep h3)).mono ?_
  rintro e w4 ⟨rfl, hb4⟩
  have h4 := h3.trans (hb4.mono h3.size)
  have q4 := q3.keep hb4
  clear hb4 h3 q3
  go_wp2_with fail
  refine (parse_is ⟨(txt x).toArray⟩ x PX.out _).mono ?_
  rintro e w5 ⟨rfl, hb5⟩
  have h5 := h4.trans (hb5.mono h4.size)
  have q5 := q4.keep hb5
  clear hb5 h4 q4
  have h6 := h5.alloc h5.size (.cells #[.int .i64 2, .int .i64 (x : Int)] 23)
  have r6 := bk_new w5 2 x 23
  have q6 := q5.keep (below_box w5 (.cells #[.int .i64 2, .int .i64 (x : Int)] 23))
  have e5 : (w5.alloc (.cells #[.int .i64 2, .int .i64 (x : Int)] 23)).heap.size = w5.heap.size + 1 := World.size_alloc _ _
  obtain ⟨B2, hB2⟩ : ∃ B2, w5.heap.size = B2 := ⟨_, rfl⟩
  obtain ⟨c, w7, hcv, hc, hrow, hb7, hsz7⟩ := run_row (P := Tryd.prog) (w5.alloc (.cells #[.int .i64 2, .int .i64 (x : Int)] 23)) 9 41 ⟨(txt x).toArray⟩ Tryd.underlying9 Tryd.underlying41 Tryd.underlying5
  rw [show (⟨(txt x).toArray⟩ : ByteArray).size = 12 from rfl] at hcv hc
  rw [show (⟨(txt x).toArray⟩ : ByteArray).data.toList = txt x from rfl] at hrow
  have q7 := q6.keep hb7
  have r7 := r6.keep hb7
  have h7 := h6.trans (hb7.mono h6.size)
  have hG := h6.size
  have hGB : (w5.alloc (.cells #[.int .i64 2, .int .i64 (x : Int)] 23)).heap.size ≠ B1 := by have := q6.1; omega
  rw [e5, hB2] at hcv hrow hG hGB
  rw [hB2] at r7
  clear r6 q6 h6 q5 hb7 hsz7 e5
  have c0 := q7.2.1
  have c1 := q7.2.2
  have d0 := r7.2.1
  have d1 := r7.2.2
  go_wp2_with fail
  have HI := Lib.hid (show ∃ bs, Like x bs ∧ Row w7 (B2 + 1) bs ∧ Bk w7 B1 2 x ∧ Below w.heap.size w w7 from ⟨_, like_self x, hrow, q7, h7⟩)
  clear hrow q7 r7 h7 c0 c1 d0 d1 hcv
  go_loopw [13] (fun i wr => ∃ k : Nat, 4 ≤ k ∧ k ≤ 12 ∧ i = .int .i64 k ∧ Hid (∃ bs, Like x bs ∧ Row wr (B2 + 1) bs ∧ Bk wr B1 2 x ∧ Below w.heap.size w wr)) (fun i _ => 12 - (intOf i).toNat)
  case atStart => exact ⟨4, by omega, by omega, rfl, HI⟩
  case round =>
    clear HI
    obtain ⟨k, hk4, hk, rfl, hid⟩ := hrel
    obtain ⟨bs, hL, hrow, hq, hB⟩ := hid.out
    clear hid
    have HL := Lib.hid hL
    have hlen := hL.1
    clear hL
    rcases (show k = 4 ∨ k = 5 ∨ k = 6 ∨ k = 7 ∨ k = 8 ∨ k = 9 ∨ k = 10 ∨ k = 11 ∨ k = 12 by omega) with rfl | rfl | rfl | rfl | rfl | rfl | rfl | rfl | rfl
    · rw [show (((4 : Nat)) : Int) = 4 from rfl]
      obtain ⟨b, hb⟩ : ∃ b, bs[4]? = some b := ⟨bs[4]'(by omega), List.getElem?_eq_getElem (by omega)⟩
      have hcl := hrow.cell 4 b hb
      have hfz := hrow.frozen 4 (by omega)
      have hlt := hrow.lt
      have Hrow := Lib.hid hrow
      have Hq := Lib.hid hq
      have HB := Lib.hid hB
      have b255 : (b.toNat : Int) < 256 := by have := b.toNat_lt; omega
      clear hrow hq hB hlen
      by_cases h97 : (97 : Int) ≤ b.toNat
      · cases hg : (bits BinOp.and IntKind.u16 (gr / 16) 1 == 1) with
        | true =>
          have HS := Lib.hid (like_set x bs HL.out 4 b (by omega) (by omega) hb (by omega))
          have hs := Lib.hid (u8sub b (by omega))
          clear hb
          go_wp2
          go_roundw
          case rel => exact ⟨5, by omega, by omega, rfl, by rw [hs.out]; exact ⟨_, HS.out, (Hrow.out).set 4 _, (Hq.out).other _ _ _ hGB, (HB.out).setCell (p := ⟨B2 + 1, 4, none⟩) hG _⟩⟩
          case measure => simp [intOf]
        | false =>
          clear hb
          go_wp2
          go_roundw
          case rel => exact ⟨5, by omega, by omega, rfl, ⟨bs, HL.out, Hrow.out, Hq.out, HB.out⟩⟩
          case measure => simp [intOf]
      · have h96 : (b.toNat : Int) < 97 := by omega
        clear hb h97
        go_wp2
        go_roundw
        case rel => exact ⟨5, by omega, by omega, rfl, ⟨bs, HL.out, Hrow.out, Hq.out, HB.out⟩⟩
        case measure => simp [intOf]
    · rw [show (((5 : Nat)) : Int) = 5 from rfl]
      obtain ⟨b, hb⟩ : ∃ b, bs[5]? = some b := ⟨bs[5]'(by omega), List.getElem?_eq_getElem (by omega)⟩
      have hcl := hrow.cell 5 b hb
      have hfz := hrow.frozen 5 (by omega)
      have hlt := hrow.lt
      have Hrow := Lib.hid hrow
      have Hq := Lib.hid hq
      have HB := Lib.hid hB
      have b255 : (b.toNat : Int) < 256 := by have := b.toNat_lt; omega
      clear hrow hq hB hlen
      by_cases h97 : (97 : Int) ≤ b.toNat
      · cases hg : (bits BinOp.and IntKind.u16 (gr / 32) 1 == 1) with
        | true =>
          have HS := Lib.hid (like_set x bs HL.out 5 b (by omega) (by omega) hb (by omega))
          have hs := Lib.hid (u8sub b (by omega))
          clear hb
          go_wp2
          go_roundw
          case rel => exact ⟨6, by omega, by omega, rfl, by rw [hs.out]; exact ⟨_, HS.out, (Hrow.out).set 5 _, (Hq.out).other _ _ _ hGB, (HB.out).setCell (p := ⟨B2 + 1, 5, none⟩) hG _⟩⟩
          case measure => simp [intOf]
        | false =>
          clear hb
          go_wp2
          go_roundw
          case rel => exact ⟨6, by omega, by omega, rfl, ⟨bs, HL.out, Hrow.out, Hq.out, HB.out⟩⟩
          case measure => simp [intOf]
      · have h96 : (b.toNat : Int) < 97 := by omega
        clear hb h97
        go_wp2
        go_roundw
        case rel => exact ⟨6, by omega, by omega, rfl, ⟨bs, HL.out, Hrow.out, Hq.out, HB.out⟩⟩
        case measure => simp [intOf]
    · rw [show (((6 : Nat)) : Int) = 6 from rfl]
      obtain ⟨b, hb⟩ : ∃ b, bs[6]? = some b := ⟨bs[6]'(by omega), List.getElem?_eq_getElem (by omega)⟩
      have hcl := hrow.cell 6 b hb
      have hfz := hrow.frozen 6 (by omega)
      have hlt := hrow.lt
      have Hrow := Lib.hid hrow
      have Hq := Lib.hid hq
      have HB := Lib.hid hB
      have b255 : (b.toNat : Int) < 256 := by have := b.toNat_lt; omega
      clear hrow hq hB hlen
      by_cases h97 : (97 : Int) ≤ b.toNat
      · cases hg : (bits BinOp.and IntKind.u16 (gr / 64) 1 == 1) with
        | true =>
          have HS := Lib.hid (like_set x bs HL.out 6 b (by omega) (by omega) hb (by omega))
          have hs := Lib.hid (u8sub b (by omega))
          clear hb
          go_wp2
          go_roundw
          case rel => exact ⟨7, by omega, by omega, rfl, by rw [hs.out]; exact ⟨_, HS.out, (Hrow.out).set 6 _, (Hq.out).other _ _ _ hGB, (HB.out).setCell (p := ⟨B2 + 1, 6, none⟩) hG _⟩⟩
          case measure => simp [intOf]
        | false =>
          clear hb
          go_wp2
          go_roundw
          case rel => exact ⟨7, by omega, by omega, rfl, ⟨bs, HL.out, Hrow.out, Hq.out, HB.out⟩⟩
          case measure => simp [intOf]
      · have h96 : (b.toNat : Int) < 97 := by omega
        clear hb h97
        go_wp2
        go_roundw
        case rel => exact ⟨7, by omega, by omega, rfl, ⟨bs, HL.out, Hrow.out, Hq.out, HB.out⟩⟩
        case measure => simp [intOf]
    · rw [show (((7 : Nat)) : Int) = 7 from rfl]
      obtain ⟨b, hb⟩ : ∃ b, bs[7]? = some b := ⟨bs[7]'(by omega), List.getElem?_eq_getElem (by omega)⟩
      have hcl := hrow.cell 7 b hb
      have hfz := hrow.frozen 7 (by omega)
      have hlt := hrow.lt
      have Hrow := Lib.hid hrow
      have Hq := Lib.hid hq
      have HB := Lib.hid hB
      have b255 : (b.toNat : Int) < 256 := by have := b.toNat_lt; omega
      clear hrow hq hB hlen
      by_cases h97 : (97 : Int) ≤ b.toNat
      · cases hg : (bits BinOp.and IntKind.u16 (gr / 128) 1 == 1) with
        | true =>
          have HS := Lib.hid (like_set x bs HL.out 7 b (by omega) (by omega) hb (by omega))
          have hs := Lib.hid (u8sub b (by omega))
          clear hb
          go_wp2
          go_roundw
          case rel => exact ⟨8, by omega, by omega, rfl, by rw [hs.out]; exact ⟨_, HS.out, (Hrow.out).set 7 _, (Hq.out).other _ _ _ hGB, (HB.out).setCell (p := ⟨B2 + 1, 7, none⟩) hG _⟩⟩
          case measure => simp [intOf]
        | false =>
          clear hb
          go_wp2
          go_roundw
          case rel => exact ⟨8, by omega, by omega, rfl, ⟨bs, HL.out, Hrow.out, Hq.out, HB.out⟩⟩
          case measure => simp [intOf]
      · have h96 : (b.toNat : Int) < 97 := by omega
        clear hb h97
        go_wp2
        go_roundw
        case rel => exact ⟨8, by omega, by omega, rfl, ⟨bs, HL.out, Hrow.out, Hq.out, HB.out⟩⟩
        case measure => simp [intOf]
    · rw [show (((8 : Nat)) : Int) = 8 from rfl]
      obtain ⟨b, hb⟩ : ∃ b, bs[8]? = some b := ⟨bs[8]'(by omega), List.getElem?_eq_getElem (by omega)⟩
      have hcl := hrow.cell 8 b hb
      have hfz := hrow.frozen 8 (by omega)
      have hlt := hrow.lt
      have Hrow := Lib.hid hrow
      have Hq := Lib.hid hq
      have HB := Lib.hid hB
      have b255 : (b.toNat : Int) < 256 := by have := b.toNat_lt; omega
      clear hrow hq hB hlen
      by_cases h97 : (97 : Int) ≤ b.toNat
      · cases hg : (bits BinOp.and IntKind.u16 (gr / 256) 1 == 1) with
        | true =>
          have HS := Lib.hid (like_set x bs HL.out 8 b (by omega) (by omega) hb (by omega))
          have hs := Lib.hid (u8sub b (by omega))
          clear hb
          go_wp2
          go_roundw
          case rel => exact ⟨9, by omega, by omega, rfl, by rw [hs.out]; exact ⟨_, HS.out, (Hrow.out).set 8 _, (Hq.out).other _ _ _ hGB, (HB.out).setCell (p := ⟨B2 + 1, 8, none⟩) hG _⟩⟩
          case measure => simp [intOf]
        | false =>
          clear hb
          go_wp2
          go_roundw
          case rel => exact ⟨9, by omega, by omega, rfl, ⟨bs, HL.out, Hrow.out, Hq.out, HB.out⟩⟩
          case measure => simp [intOf]
      · have h96 : (b.toNat : Int) < 97 := by omega
        clear hb h97
        go_wp2
        go_roundw
        case rel => exact ⟨9, by omega, by omega, rfl, ⟨bs, HL.out, Hrow.out, Hq.out, HB.out⟩⟩
        case measure => simp [intOf]
    · rw [show (((9 : Nat)) : Int) = 9 from rfl]
      obtain ⟨b, hb⟩ : ∃ b, bs[9]? = some b := ⟨bs[9]'(by omega), List.getElem?_eq_getElem (by omega)⟩
      have hcl := hrow.cell 9 b hb
      have hfz := hrow.frozen 9 (by omega)
      have hlt := hrow.lt
      have Hrow := Lib.hid hrow
      have Hq := Lib.hid hq
      have HB := Lib.hid hB
      have b255 : (b.toNat : Int) < 256 := by have := b.toNat_lt; omega
      clear hrow hq hB hlen
      by_cases h97 : (97 : Int) ≤ b.toNat
      · cases hg : (bits BinOp.and IntKind.u16 (gr / 512) 1 == 1) with
        | true =>
          have HS := Lib.hid (like_set x bs HL.out 9 b (by omega) (by omega) hb (by omega))
          have hs := Lib.hid (u8sub b (by omega))
          clear hb
          go_wp2
          go_roundw
          case rel => exact ⟨10, by omega, by omega, rfl, by rw [hs.out]; exact ⟨_, HS.out, (Hrow.out).set 9 _, (Hq.out).other _ _ _ hGB, (HB.out).setCell (p := ⟨B2 + 1, 9, none⟩) hG _⟩⟩
          case measure => simp [intOf]
        | false =>
          clear hb
          go_wp2
          go_roundw
          case rel => exact ⟨10, by omega, by omega, rfl, ⟨bs, HL.out, Hrow.out, Hq.out, HB.out⟩⟩
          case measure => simp [intOf]
      · have h96 : (b.toNat : Int) < 97 := by omega
        clear hb h97
        go_wp2
        go_roundw
        case rel => exact ⟨10, by omega, by omega, rfl, ⟨bs, HL.out, Hrow.out, Hq.out, HB.out⟩⟩
        case measure => simp [intOf]
    · rw [show (((10 : Nat)) : Int) = 10 from rfl]
      obtain ⟨b, hb⟩ : ∃ b, bs[10]? = some b := ⟨bs[10]'(by omega), List.getElem?_eq_getElem (by omega)⟩
      have hcl := hrow.cell 10 b hb
      have hfz := hrow.frozen 10 (by omega)
      have hlt := hrow.lt
      have Hrow := Lib.hid hrow
      have Hq := Lib.hid hq
      have HB := Lib.hid hB
      have b255 : (b.toNat : Int) < 256 := by have := b.toNat_lt; omega
      clear hrow hq hB hlen
      by_cases h97 : (97 : Int) ≤ b.toNat
      · cases hg : (bits BinOp.and IntKind.u16 (gr / 1024) 1 == 1) with
        | true =>
          have HS := Lib.hid (like_set x bs HL.out 10 b (by omega) (by omega) hb (by omega))
          have hs := Lib.hid (u8sub b (by omega))
          clear hb
          go_wp2
          go_roundw
          case rel => exact ⟨11, by omega, by omega, rfl, by rw [hs.out]; exact ⟨_, HS.out, (Hrow.out).set 10 _, (Hq.out).other _ _ _ hGB, (HB.out).setCell (p := ⟨B2 + 1, 10, none⟩) hG _⟩⟩
          case measure => simp [intOf]
        | false =>
          clear hb
          go_wp2
          go_roundw
          case rel => exact ⟨11, by omega, by omega, rfl, ⟨bs, HL.out, Hrow.out, Hq.out, HB.out⟩⟩
          case measure => simp [intOf]
      · have h96 : (b.toNat : Int) < 97 := by omega
        clear hb h97
        go_wp2
        go_roundw
        case rel => exact ⟨11, by omega, by omega, rfl, ⟨bs, HL.out, Hrow.out, Hq.out, HB.out⟩⟩
        case measure => simp [intOf]
    · rw [show (((11 : Nat)) : Int) = 11 from rfl]
      obtain ⟨b, hb⟩ : ∃ b, bs[11]? = some b := ⟨bs[11]'(by omega), List.getElem?_eq_getElem (by omega)⟩
      have hcl := hrow.cell 11 b hb
      have hfz := hrow.frozen 11 (by omega)
      have hlt := hrow.lt
      have Hrow := Lib.hid hrow
      have Hq := Lib.hid hq
      have HB := Lib.hid hB
      have b255 : (b.toNat : Int) < 256 := by have := b.toNat_lt; omega
      clear hrow hq hB hlen
      by_cases h97 : (97 : Int) ≤ b.toNat
      · cases hg : (bits BinOp.and IntKind.u16 (gr / 2048) 1 == 1) with
        | true =>
          have HS := Lib.hid (like_set x bs HL.out 11 b (by omega) (by omega) hb (by omega))
          have hs := Lib.hid (u8sub b (by omega))
          clear hb
          go_wp2
          go_roundw
          case rel => exact ⟨12, by omega, by omega, rfl, by rw [hs.out]; exact ⟨_, HS.out, (Hrow.out).set 11 _, (Hq.out).other _ _ _ hGB, (HB.out).setCell (p := ⟨B2 + 1, 11, none⟩) hG _⟩⟩
          case measure => simp [intOf]
        | false =>
          clear hb
          go_wp2
          go_roundw
          case rel => exact ⟨12, by omega, by omega, rfl, ⟨bs, HL.out, Hrow.out, Hq.out, HB.out⟩⟩
          case measure => simp [intOf]
      · have h96 : (b.toNat : Int) < 97 := by omega
        clear hb h97
        go_wp2
        go_roundw
        case rel => exact ⟨12, by omega, by omega, rfl, ⟨bs, HL.out, Hrow.out, Hq.out, HB.out⟩⟩
        case measure => simp [intOf]
    · rw [show (((12 : Nat)) : Int) = 12 from rfl]
      have hcv := run_str (P := Tryd.prog) wr 41 9 5 ⟨B2 + 1, 0, none⟩ 12 c bs hlen Tryd.underlying41 Tryd.underlying5 Tryd.underlying9 hrow.rd
      have PL := Lib.hid (like_parse x bs HL.out hx)
      obtain ⟨P, hP⟩ : ∃ P : Nat, (pal ib.toNat) = (P : Int) := ⟨(pal ib.toNat).toNat, (Int.toNat_of_nonneg (pal_bd _ i255).1).symm⟩
      have hPb := (pal_bd _ i255).2
      have RI := Lib.hid (rgbC_ii ib.toNat i255)
      have TI := Lib.hid (txtC_i ib.toNat i255)
      have EI := Lib.hid (txtE_x 1 (ib.toNat : Int) (okC_i ib.toNat i255) (by omega))
      rw [hP] at RI TI hPb
      rw [Int.toNat_natCast] at TI
      have PI := Lib.hid (parse_txt P (by omega))
      clear hP hrow hlen HL
      have q0 := hq
      have h0 := hB
      clear hq hB
      go_wp2_with fail
      refine (parse_is ⟨bs.toArray⟩ x PL.out _).mono ?_
      rintro e w1 ⟨rfl, hb1⟩
      have h1 := h0.trans (hb1.mono h0.size)
      have q1 := q0.keep hb1
      clear hb1 h0 q0 hcv
      have hx1 := below_box w1 (.cells #[.int .i64 2, .int .i64 (x : Int)] 23)
      have h2 := h1.trans (hx1.mono h1.size)
      have q2 := q1.keep hx1
      have r2 := bk_new w1 2 x 23
      go_wp2_with fail
      generalize w1.alloc (.cells #[.int .i64 2, .int .i64 (x : Int)] 23) = w2 at h2 q2 r2 ⊢
      generalize w1.heap.size = B3 at r2 ⊢
      clear h1 q1 hx1
      refine (index_any _ _).mono ?_
      rintro e w3 ⟨rfl, hb3⟩
      have h3 := h2.trans (hb3.mono h2.size)
      have q3 := q2.keep hb3
      have r3 := r2.keep hb3
      clear hb3 h2 q2 r2
      go_wp2_with fail
      refine (text_is 1 (ib.toNat : Int) _ 0 TI.out EI.out _ ((H.out).keep h3)).mono ?_
      rintro e w4 ⟨rfl, hb4⟩
      have h4 := h3.trans (hb4.mono h3.size)
      have q4 := q3.keep hb4
      have r4 := r3.keep hb4
      clear hb4 h3 q3 r3
      go_wp2_with fail
      refine (parse_is ⟨(txt P).toArray⟩ P PI.out _).mono ?_
      rintro e w5 ⟨rfl, hb5⟩
      have h5 := h4.trans (hb5.mono h4.size)
      have q5 := q4.keep hb5
      have r5 := r4.keep hb5
      clear hb5 h4 q4 r4
      have hx5 := below_box w5 (.cells #[.int .i64 2, .int .i64 (P : Int)] 23)
      have h6 := h5.trans (hx5.mono h5.size)
      have q6 := q5.keep hx5
      have r6 := r5.keep hx5
      have s6 := bk_new w5 2 P 23
      go_wp2_with fail
      generalize w5.alloc (.cells #[.int .i64 2, .int .i64 (P : Int)] 23) = w6 at h6 q6 r6 s6 ⊢
      generalize w5.heap.size = B4 at s6 ⊢
      clear h5 q5 r5 hx5
      refine (index_any _ _).mono ?_
      rintro e w7 ⟨rfl, hb7⟩
      have h7 := h6.trans (hb7.mono h6.size)
      have q7 := q6.keep hb7
      have r7 := r6.keep hb7
      have s7 := s6.keep hb7
      clear hb7 h6 q6 r6 s6
      go_wp2_with fail
      refine (rgb_is 1 (ib.toNat : Int) P RI.out _ ((H.out).keep h7)).mono ?_
      rintro e w8 ⟨rfl, hb8⟩
      have h8 := h7.trans (hb8.mono h7.size)
      have q8 := q7.keep hb8
      have r8 := r7.keep hb8
      have s8 := s7.keep hb8
      clear hb8 h7 q7 r7 s7
      have hG8 : Below w8.heap.size w8 w8.drew := (Below.refl _ w8).drew
      have c0 := q8.2.1
      have c1 := q8.2.2
      have c2 := r8.2.1
      have c3 := r8.2.2
      have c4 := s8.2.1
      have c5 := s8.2.2
      have l0 := q8.1
      have l1 := r8.1
      have l2 := s8.1
      go_wp2_with fail
      go_region_held3 (fun w' => w'.cell? ⟨B1, 0, none⟩ = some (.int .i64 2) ∧ w'.cell? ⟨B1, 1, none⟩ = some (.int .i64 (x : Int)) ∧ w'.cell? ⟨B3, 0, none⟩ = some (.int .i64 2) ∧ w'.cell? ⟨B3, 1, none⟩ = some (.int .i64 (x : Int)) ∧ w'.cell? ⟨B4, 0, none⟩ = some (.int .i64 2) ∧ w'.cell? ⟨B4, 1, none⟩ = some (.int .i64 (P : Int))) (exact ⟨by assumption, by assumption, by assumption, by assumption, by assumption, by assumption⟩) (first | (go_at_call 25; ((with_reducible refine (lrgb_any _ _).mono ?_); (rintro e wA ⟨rfl, hbA⟩; have hG8 := hG8.trans (hbA.mono hG8.size); have d0 := (hG8.cell (p := ⟨B1, 0, none⟩) l0).trans c0; have d1 := (hG8.cell (p := ⟨B1, 1, none⟩) l0).trans c1; have d2 := (hG8.cell (p := ⟨B3, 0, none⟩) l1).trans c2; have d3 := (hG8.cell (p := ⟨B3, 1, none⟩) l1).trans c3; have d4 := (hG8.cell (p := ⟨B4, 0, none⟩) l2).trans c4; have d5 := (hG8.cell (p := ⟨B4, 1, none⟩) l2).trans c5))))
      all_goals
        go_wp2
        go_ret
        exact ⟨rfl, h8.trans (hG8.mono h8.size)⟩
end Go.Proofs.YtddgigiajenmkaaDoor.Col
