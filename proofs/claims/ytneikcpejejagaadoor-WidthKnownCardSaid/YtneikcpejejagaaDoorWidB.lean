/-
  Contract of the width package's Of: it returns the width of a number, and makes memory of its own alone.
-/
import Derived.Test.YtneikcpejejagaaDoorWidA
import Derived.Test.YtneikcpejejagaaDoorUtfA
import Derived.Deep.MidRow
import Derived.Lib.EndianMore
namespace Go.Proofs.YtneikcpejejagaaDoor.Wid
open Go.RowKit Utf

/-- the tables of ranges lie in the blocks of their variables -/
def Tb (w : World) : Prop := Mk w ∧ (0 < w.heap.size ∧ w.rangeAt 0 0 (cS ctlT)) ∧ (1 < w.heap.size ∧ w.rangeAt 1 0 (cS zeroT)) ∧ (2 < w.heap.size ∧ w.rangeAt 2 0 (cS twoT))
theorem range_below {w w' : World} {b : Nat} {cs : List Value} {B : Nat} (h : w.rangeAt b 0 cs) (hb : Below B w w') (hl : b < B) : w'.rangeAt b 0 cs := fun j u hu => (hb.cell (p := ⟨b, 0 + j, none⟩) hl).trans (h j u hu)
theorem Tb.below {w w' : World} {B : Nat} (h : Tb w) (hb : Below B w w') (h0 : 3 < B) (h1 : 0 < B) (h2 : 1 < B) (h3 : 2 < B) : Tb w' := by
  obtain ⟨hm, ⟨l1, k1⟩, ⟨l2, k2⟩, ⟨l3, k3⟩⟩ := h
  exact ⟨hm.below hb h0, ⟨Nat.lt_of_lt_of_le l1 hb.size, range_below k1 hb h1⟩, ⟨Nat.lt_of_lt_of_le l2 hb.size, range_below k2 hb h2⟩, ⟨Nat.lt_of_lt_of_le l3 hb.size, range_below k3 hb h3⟩⟩
theorem Tb.keep {w w' : World} (h : Tb w) (hb : Below w.heap.size w w') : Tb w' := h.below hb h.1.1 h.2.1.1 h.2.2.1.1 h.2.2.2.1
theorem cS_one (l : List (Int × Int)) : ∀ u ∈ cS l, u.oneCell' = true := by
  induction l with
  | nil => intro u hu; cases hu
  | cons p r ih =>
    intro u hu
    simp only [cS, List.mem_cons] at hu
    rcases hu with rfl | rfl | hu
    · rfl
    · rfl
    · exact ih u hu
theorem there_new (w : World) (cs : Array Value) (t : TypeId) (n : Nat) (h : n ≤ cs.size) : (w.alloc (.cells cs t)).there w.heap.size 0 n := fun j hj => by
  have hg := heap_alloc_new w (.cells cs t)
  refine ⟨?_, frozen_of_row _ _ _ cs t hg⟩
  rw [cell_of_row _ _ _ cs t (0, 0) hg, Nat.zero_add, Array.getElem?_eq_getElem (by omega)]
  rfl
theorem there_new1 (w : World) (o : Obj) (cs : Array Value) (t : TypeId) (n : Nat) (h : n ≤ cs.size) : ((w.alloc o).alloc (.cells cs t)).there (w.heap.size + 1) 0 n := by
  have := there_new (w.alloc o) cs t n h
  rwa [World.size_alloc] at this
theorem there_new2 (w : World) (o o2 : Obj) (cs : Array Value) (t : TypeId) (n : Nat) (h : n ≤ cs.size) : (((w.alloc o).alloc o2).alloc (.cells cs t)).there (w.heap.size + 1 + 1) 0 n := by
  have := there_new1 (w.alloc o) o2 cs t n h
  rwa [World.size_alloc] at this
theorem rd_range {w : World} {b : Nat} {cs : List Value} (h : w.rangeAt b 0 cs) (hb : b < w.heap.size) : Rd w (some ⟨b, 0, none⟩) cs := fun j u hu => ⟨_, rfl, hb, by rw [Addr.add_mid]; exact h j u hu⟩
theorem wid_no (c : Int) (h : chk c = false) : wid c = -1 := by unfold wid; rw [if_pos h]
theorem wid_ctl (c : Int) (h : chk c = true) (h1 : inR ctlT c = true) : wid c = -1 := by unfold wid; rw [if_neg (by rw [h]; decide), if_pos h1]
theorem wid_zero (c : Int) (h : chk c = true) (h1 : inR ctlT c = false) (h2 : inR zeroT c = true) : wid c = 0 := by unfold wid; rw [if_neg (by rw [h]; decide), if_neg (by rw [h1]; decide), if_pos h2]
theorem wid_two (c : Int) (h : chk c = true) (h1 : inR ctlT c = false) (h2 : inR zeroT c = false) (h3 : inR twoT c = true) : wid c = 2 := by unfold wid; rw [if_neg (by rw [h]; decide), if_neg (by rw [h1]; decide), if_neg (by rw [h2]; decide), if_pos h3]
theorem wid_one (c : Int) (h : chk c = true) (h1 : inR ctlT c = false) (h2 : inR zeroT c = false) (h3 : inR twoT c = false) : wid c = 1 := by unfold wid; rw [if_neg (by rw [h]; decide), if_neg (by rw [h1]; decide), if_neg (by rw [h2]; decide), if_neg (by rw [h3]; decide)]
theorem within_yes (b n cap : Nat) (l : List (Int × Int)) (c : Int) (q : Bool) (w : World) (hn : l.length = n) (h : w.rangeAt b 0 (cS l)) (hb : b < w.heap.size) (hl : l.length ≤ 1000) (hq : inR l c = q) :
    Calls Tryd.prog 19 #[.int .i64 c, .slice (some ⟨b, 0, none⟩) n cap] w fun e w' => e = .returned (.bool q) ∧ Below w.heap.size w w' := by
  subst hn; subst hq; exact within_any _ _ _ _ _ (rd_range h hb) hl
def ofW (w : World) : World := (((((w.alloc (.cells #[.int .i64 0, .int .i64 0, .int .i64 0, .int .i64 0] 41)).alloc (.cells #[.int .i64 0, .int .i64 0, .int .i64 0, .int .i64 0, .int .i64 0, .int .i64 0, .int .i64 0, .int .i64 0, .int .i64 0, .int .i64 0, .int .i64 0, .int .i64 0, .int .i64 0, .int .i64 0, .int .i64 0, .int .i64 0, .int .i64 0, .int .i64 0, .int .i64 0, .int .i64 0, .int .i64 0, .int .i64 0] 42)).alloc (.cells #[.int .i64 0, .int .i64 0, .int .i64 0, .int .i64 0, .int .i64 0, .int .i64 0, .int .i64 0, .int .i64 0, .int .i64 0, .int .i64 0, .int .i64 0, .int .i64 0, .int .i64 0, .int .i64 0, .int .i64 0, .int .i64 0, .int .i64 0, .int .i64 0, .int .i64 0, .int .i64 0, .int .i64 0, .int .i64 0, .int .i64 0, .int .i64 0, .int .i64 0, .int .i64 0, .int .i64 0, .int .i64 0, .int .i64 0, .int .i64 0] 43)).setCells w.heap.size 0 (cS ctlT)).setCells (w.heap.size + 1) 0 (cS zeroT)).setCells (w.heap.size + 1 + 1) 0 (cS twoT)
theorem sizeCells (b : Nat) : ∀ (vs : List Value) (o : Nat) (w : World), (w.setCells b o vs).heap.size = w.heap.size
  | [], _, _ => rfl
  | v :: r, o, w => by rw [World.setCells, sizeCells b r]; simp
theorem ofW_ok (w : World) : (ofW w).rangeAt w.heap.size 0 (cS ctlT) ∧ (ofW w).rangeAt (w.heap.size + 1) 0 (cS zeroT) ∧ (ofW w).rangeAt (w.heap.size + 1 + 1) 0 (cS twoT) ∧ Below w.heap.size w (ofW w) ∧ w.heap.size + 1 + 1 < (ofW w).heap.size := by
  unfold ofW
  refine ⟨?_, ?_, ?_, ?_, ?_⟩
  · refine World.rangeAt_setCells_apart (World.rangeAt_setCells_apart (World.rangeAt_setCells_same _ _ _ _ ?_) _ _ _ (.inl (by omega))) _ _ _ (.inl (by omega))
    exact World.there_alloc (World.there_alloc (there_new _ _ _ _ (by decide)) _) _
  · refine World.rangeAt_setCells_apart (World.rangeAt_setCells_same _ _ _ _ ?_) _ _ _ (.inl (by omega))
    exact World.there_setCells (World.there_alloc (there_new1 _ _ _ _ _ (by decide)) _) _ _ _
  · refine World.rangeAt_setCells_same _ _ _ _ ?_
    exact World.there_setCells (World.there_setCells (there_new2 _ _ _ _ _ _ (by decide)) _ _ _) _ _ _
  · exact ((((((Below.refl _ w).alloc (Nat.le_refl _) _).alloc (by simp) _).alloc (by simp; omega) _).trans (Lib.below_setCells_w (Nat.le_refl _) _ _ _)).trans (Lib.below_setCells_w (by omega) _ _ _)).trans (Lib.below_setCells_w (by omega) _ _ _)
  · rw [sizeCells, sizeCells, sizeCells]
    simp
theorem szC : (Tryd.prog.info? 41).map (·.size) = some (cS ctlT).length := by kernel_rfl
theorem szC' : (Tryd.prog.info? 41).map (·.size) = some (cS ctlT).toArray.size := szC
theorem szZ : (Tryd.prog.info? 42).map (·.size) = some (cS zeroT).length := by kernel_rfl
theorem szZ' : (Tryd.prog.info? 42).map (·.size) = some (cS zeroT).toArray.size := szZ
theorem szT : (Tryd.prog.info? 43).map (·.size) = some (cS twoT).length := by kernel_rfl
theorem szT' : (Tryd.prog.info? 43).map (·.size) = some (cS twoT).toArray.size := szT

set_option maxRecDepth 100000 in
set_option maxHeartbeats 4000000 in
theorem of_any (c : Int) (w : World) (h : Tb w) : Calls Tryd.prog 8 #[.int .i64 c] w fun e w' => e = .returned (.int .i64 (wid c)) ∧ Below w.heap.size w w' := by
  have H := Lib.hid h
  obtain ⟨_, ⟨_, k1⟩, ⟨_, k2⟩, ⟨_, k3⟩⟩ := h
  have K1 := Lib.hid k1; clear k1
  have K2 := Lib.hid k2; clear k2
  have K3 := Lib.hid k3; clear k3
  go_enter Tryd.func8, Tryd.ntmps8
  go_wp2_with (first
    | (with_reducible refine wpList_load_mid rfl 41 (.global 0) rfl 0 0 rfl (cS ctlT) _ K1.out Tryd.underlying41 rfl szC ?_)
    | (with_reducible refine wpList_load_mid rfl 42 (.global 1) rfl 1 0 rfl (cS zeroT) _ K2.out Tryd.underlying42 rfl szZ ?_)
    | (with_reducible refine wpList_load_mid rfl 43 (.global 2) rfl 2 0 rfl (cS twoT) _ K3.out Tryd.underlying43 rfl szT ?_)
    | ((with_reducible refine wpList_store_mid rfl 41 (.tmp 3) (.tmp 6) rfl w.heap.size 0 (cS ctlT).toArray rfl rfl ?ht szC' (all_oneCell_toArray (cS_one _)) ?_); (case ht => exact World.there_alloc (World.there_alloc (there_new _ _ _ _ (by decide)) _) _))
    | ((with_reducible refine wpList_store_mid rfl 42 (.tmp 4) (.tmp 7) rfl (w.heap.size + 1) 0 (cS zeroT).toArray rfl rfl ?ht szZ' (all_oneCell_toArray (cS_one _)) ?_); (case ht => exact World.there_setCells (World.there_alloc (there_new1 _ _ _ _ _ (by decide)) _) _ _ _))
    | ((with_reducible refine wpList_store_mid rfl 43 (.tmp 5) (.tmp 8) rfl (w.heap.size + 1 + 1) 0 (cS twoT).toArray rfl rfl ?ht szT' (all_oneCell_toArray (cS_one _)) ?_); (case ht => exact World.there_setCells (World.there_setCells (there_new2 _ _ _ _ _ _ (by decide)) _ _ _) _ _ _)))
  change Calls _ _ _ (ofW w) _
  obtain ⟨r1, r2, r3, hb, hs⟩ := ofW_ok w
  obtain ⟨W, hW⟩ : ∃ W, ofW w = W := ⟨_, rfl⟩
  rw [hW] at r1 r2 r3 hb hs ⊢
  clear hW K1 K2 K3 H
  have R1 := Lib.hid r1; clear r1
  have R2 := Lib.hid r2; clear r2
  have R3 := Lib.hid r3; clear r3
  refine (check_any _ _).mono ?_
  rintro e w' ⟨rfl, rfl⟩
  cases hc : chk c with
  | false =>
    have HC := Lib.hid hc; clear hc
    go_wp2
    go_ret
    exact ⟨by rw [wid_no c HC.out]; rfl, hb⟩
  | true =>
    have HC := Lib.hid hc; clear hc
    cases h1 : inR ctlT c with
    | true =>
      have H1 := Lib.hid h1; clear h1
      go_wp2_with (go_at_call 19; ((with_reducible refine (within_yes _ 2 _ ctlT c true _ rfl R1.out (by omega) (by decide) H1.out).mono ?_); rintro e w1 ⟨rfl, hb1⟩))
      go_ret
      exact ⟨by rw [wid_ctl c HC.out H1.out]; rfl, hb.trans (hb1.mono hb.size)⟩
    | false =>
      have H1 := Lib.hid h1; clear h1
      go_wp2_with fail
      refine (within_yes _ 2 _ ctlT c false _ rfl R1.out (by omega) (by decide) H1.out).mono ?_
      rintro e w1 ⟨rfl, hb1⟩
      have hb2 := hb.trans (hb1.mono hb.size)
      have S2 := Lib.hid (range_below R2.out hb1 (by omega)); clear R2
      have S3 := Lib.hid (range_below R3.out hb1 (by omega)); clear R3
      have hs1 := Nat.lt_of_lt_of_le hs hb1.size
      clear hb hb1 hs R1
      cases h2 : inR zeroT c with
      | true =>
        have H2 := Lib.hid h2; clear h2
        go_wp2_with fail
        refine (within_yes _ 11 _ zeroT c true _ rfl S2.out (by omega) (by decide) H2.out).mono ?_
        rintro e w2 ⟨rfl, hb3⟩
        go_wp2
        go_ret
        exact ⟨by rw [wid_zero c HC.out H1.out H2.out]; rfl, hb2.trans (hb3.mono hb2.size)⟩
      | false =>
        have H2 := Lib.hid h2; clear h2
        go_wp2_with fail
        refine (within_yes _ 11 _ zeroT c false _ rfl S2.out (by omega) (by decide) H2.out).mono ?_
        rintro e w2 ⟨rfl, hb3⟩
        have hb4 := hb2.trans (hb3.mono hb2.size)
        have T3 := Lib.hid (range_below S3.out hb3 (by omega)); clear S3
        have hs2 := Nat.lt_of_lt_of_le hs1 hb3.size
        clear hb2 hb3 hs1 S2
        cases h3 : inR twoT c with
        | true =>
          have H3 := Lib.hid h3; clear h3
          go_wp2_with fail
          refine (within_yes _ 15 _ twoT c true _ rfl T3.out (by omega) (by decide) H3.out).mono ?_
          rintro e w3 ⟨rfl, hb5⟩
          go_wp2
          go_ret
          exact ⟨by rw [wid_two c HC.out H1.out H2.out H3.out]; rfl, hb4.trans (hb5.mono hb4.size)⟩
        | false =>
          have H3 := Lib.hid h3; clear h3
          go_wp2_with fail
          refine (within_yes _ 15 _ twoT c false _ rfl T3.out (by omega) (by decide) H3.out).mono ?_
          rintro e w3 ⟨rfl, hb5⟩
          go_wp2
          go_ret
          exact ⟨by rw [wid_one c HC.out H1.out H2.out H3.out]; rfl, hb4.trans (hb5.mono hb4.size)⟩
end Go.Proofs.YtneikcpejejagaaDoor.Wid
