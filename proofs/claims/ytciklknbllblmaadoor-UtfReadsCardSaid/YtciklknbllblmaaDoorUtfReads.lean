/-
  The walk of the law UtfReads: it returns true, whatever its arguments; nothing that lay before the call has turned.
-/
import Derived.Test.YtciklknbllblmaaDoorUtfS
import Derived.Test.YtciklknbllblmaaDoorUtfBack
import Derived.Test.YtciklknbllblmaaDoorUtfKnown
import Derived.Deep.RegionHeld3
namespace Go.Proofs.YtciklknbllblmaaDoor.Utf
open Go.RowKit

theorem codesL_len2 (s : ByteArray) (k : Nat) (h : s.size ≤ k) : (codesL s.data.toList).length ≤ 2 * k + 1 := by
  have h1 := runL_len ([], []) s.data.toList
  have h2 := flushL_len (runL ([], []) s.data.toList).1
  simp only [List.length_nil, Array.length_toList] at h1
  unfold codesL
  rw [List.length_append]
  have : s.data.size = s.size := rfl
  omega
theorem Rd.set_ {w : World} {g : Nat} {bs : List UInt8} (h : Rd w (some ⟨g, 0, none⟩) (cB bs)) (m : Nat) (b : UInt8) : Rd (w.setCell ⟨g, m, none⟩ (.int .u8 (b.toNat : Int))) (some ⟨g, 0, none⟩) (cB (bs.set m b)) := fun j u hu => by
  have hj : j < (cB (bs.set m b)).length := (List.getElem?_eq_some_iff.1 hu).1
  rw [cB_len, List.length_set] at hj
  obtain ⟨b0, hb0⟩ : ∃ b0, bs[j]? = some b0 := ⟨bs[j], by simp [hj]⟩
  obtain ⟨ad, e, hlt, hc⟩ := h j _ (cB_at bs j b0 hb0)
  cases e
  have ea : (⟨g, 0, none⟩ : Addr).add j = ⟨g, j, none⟩ := by
    unfold Addr.add
    by_cases h0 : j = 0
    · subst h0; simp
    · simp [h0]
  refine ⟨_, rfl, by simpa [World.setCell] using hlt, ?_⟩
  rw [ea] at hc ⊢
  by_cases hjm : j = m
  · subst hjm
    rw [World.cell?_setCell_same' _ _ _ (by rw [hc]; rfl), ← hu]
    simp [cB, hj]
  · rw [World.cell?_setCell_other _ _ _ _ (by intro e; cases e; exact hjm rfl), hc, ← hu]
    simp [cB, hb0, show ¬ m = j from fun e => hjm e.symm]

/-- the bytes of a string in a new block that may be written -/
theorem bytes_of' {P : Program} (w : World) (src dst e : TypeId) (s : ByteArray) (hs : P.underlying src = some .string) (hd : P.underlying dst = some (.slice e)) (he : P.underlying e = some (.int .u8)) :
    ∃ c w1, (convert src dst (.string s)).run P w = .ok (.slice (some ⟨w.heap.size, 0, none⟩) s.size c) w1 ∧ s.size ≤ c ∧ Rd w1 (some ⟨w.heap.size, 0, none⟩) (cB s.data.toList) ∧ w1.heap.size = w.heap.size + 1 ∧ Below w.heap.size w w1 ∧
      ∀ m, m < s.size → w1.frozen? ⟨w.heap.size, m, none⟩ = false ∧ ∃ u, w1.cell? ⟨w.heap.size, m, none⟩ = some u := by
  have hrd : Rd (w.drew.alloc (.cells (bytesRow s (grownCap w s.size 0 e)) e ((bytesRow s (grownCap w s.size 0 e)).size, (bytesRow s (grownCap w s.size 0 e)).size + 1))) (some ⟨w.heap.size, 0, none⟩) (cB s.data.toList) := by
    intro j u hu
    refine ⟨_, rfl, by simp, World.news_of_block (heap_alloc_new w.drew _) j u ?_⟩
    have hj : j < (cB s.data.toList).length := (List.getElem?_eq_some_iff.1 hu).1
    rw [bytesRow, Array.toList_append, List.getElem?_append_left (by simpa [cB] using hj), ← hu]
    simp [cB]
  have hrs : s.size ≤ (bytesRow s (grownCap w s.size 0 e)).size := by
    simp only [bytesRow, Array.size_append, Array.size_map]
    have : s.data.size = s.size := rfl
    omega
  refine ⟨_, _, run_bytes_of_string w src dst e s hs hd he, grownCap_ge _ _ _ _, hrd, by simp, ((Below.refl _ w).drew).alloc (Nat.le_refl _) _, fun m hm => ⟨?_, ?_⟩⟩
  · have hh := heap_alloc_new w.drew (.cells (bytesRow s (grownCap w s.size 0 e)) e ((bytesRow s (grownCap w s.size 0 e)).size, (bytesRow s (grownCap w s.size 0 e)).size + 1))
    have hh2 : (w.drew.alloc (.cells (bytesRow s (grownCap w s.size 0 e)) e ((bytesRow s (grownCap w s.size 0 e)).size, (bytesRow s (grownCap w s.size 0 e)).size + 1))).heap[w.heap.size]? = _ := hh
    simp only [World.frozen?, hh2]
    simp
    omega
  · obtain ⟨b, hb⟩ : ∃ b, s.data.toList[m]? = some b := ⟨s.data.toList[m]'(by have : s.data.toList.length = s.size := rfl; omega), by simp⟩
    obtain ⟨ad, e', _, hc⟩ := hrd m _ (cB_at _ m b hb)
    cases e'
    refine ⟨_, Eq.trans (congrArg _ ?_) hc⟩
    unfold Addr.add
    by_cases h0 : m = 0
    · subst h0; simp
    · simp [h0]

set_option maxRecDepth 100000 in
set_option maxHeartbeats 8000000 in
theorem reads_any (s : ByteArray) (A : Option Addr) (n d : Nat) (xs : List Int) (at_ b : UInt8) (w : World) (hm : Mk w) (hs : s.size ≤ 9223372036854775807) (hx : Rd w A (cI xs)) (hn : xs.length = n) (hc : n ≤ d) (hcb : d ≤ 9223372036854775807) :
    Calls Tryd.prog 5 #[.string s, .slice A n d, .int .u8 (at_.toNat : Int), .int .u8 (b.toNat : Int)] w fun e w' => e = .returned (.bool true) ∧ Below w.heap.size w w' := by
  have HM := Lib.hid hm; clear hm
  have HX := Lib.hid hx; clear hx
  have Hn := Lib.hid hn; clear hn
  have hbl : (b.toNat : Int) < 256 := by have := b.toNat_lt; omega
  have hal : (at_.toNat : Int) < 256 := by have := at_.toNat_lt; omega
  rcases (show (s.size ≤ 200) ∨ (200 < s.size) by omega) with h1 | h1 <;> rcases (show (n ≤ 40) ∨ (40 < n) by omega) with h2 | h2
  · go_enter Tryd.func5, Tryd.ntmps5
    go_wp2_with fail
    obtain ⟨P, hP⟩ : ∃ P, xs.take n = P := ⟨_, rfl⟩
    have RP := Lib.hid (show Rd w A (cI P) by rw [← hP, cI_take]; exact (HX.out).take _)
    have RPL := Lib.hid (show P.length = n by rw [← hP, List.length_take, Hn.out]; omega)
    clear hP HX
    refine (rtext_any A d _ P RPL.out _ RP.out (by rw [RPL.out]; omega)).mono ?_
    rintro e w1 ⟨rfl, hb1⟩
    obtain ⟨g, hg⟩ : ∃ g : ByteArray, (⟨(textL P).toArray⟩ : ByteArray) = g := ⟨_, rfl⟩
    have hgs : g.size ≤ 160 := by
      rw [← hg]
      have := textL_len P
      rw [RPL.out] at this
      show (textL P).length ≤ 160
      omega
    rw [hg]
    clear hg
    obtain ⟨c1, w2, hcv, hc1, hr1, hb2⟩ := bytes_of' (P := Tryd.prog) w1 9 30 5 g Tryd.underlying9 Tryd.underlying30 Tryd.underlying5
    have hb3 := up5' hb1 hb2.2.1
    have hbs1 := hb1.size
    have HR1 := Lib.hid hr1
    have HB2 := Lib.hid hb2
    clear hr1 hb2 hb1
    rcases (show g.size = 0 ∨ 0 < g.size by omega) with hg0 | hg0
    · have t3 : decide ((0 : Int) < (g.size : Int)) = false := decide_eq_false (by omega)
      have t4 : ¬ 0 < g.size := by omega
      have Hg0 := Lib.hid hg0; clear hg0
      go_wp2_with fail
      obtain ⟨w3, hw3⟩ : ∃ w3, w2 = w3 := ⟨_, rfl⟩
      subst hw3
      obtain ⟨M, hM⟩ : ∃ M, g.data.toList = M := ⟨_, rfl⟩
      have HML := Lib.hid (show M.length = g.size by rw [← hM]; rfl)
      have HRM := Lib.hid (show Rd w2 (some ⟨w1.heap.size, 0, none⟩) (cB M) by rw [← hM]; exact HR1.out)
      have hb4 := hb3
      clear hM hcv
      obtain ⟨t, ht⟩ : ∃ t : ByteArray, (⟨M.toArray⟩ : ByteArray) = t := ⟨_, rfl⟩
      have hts : t.size ≤ 160 := by rw [← ht]; show M.length ≤ 160; rw [HML.out]; omega
      have hcvt : ∀ W, Below w2.heap.size w2 W → (convert 30 9 (.slice (some ⟨w1.heap.size, 0, none⟩) g.size c1)).run Tryd.prog W = .ok (.string t) W := fun W hW => by
        rw [← ht, ← HML.out]
        exact run_str (P := Tryd.prog) W 30 9 5 _ c1 M Tryd.underlying30 Tryd.underlying5 Tryd.underlying9 ((HRM.out).below hW)
      clear ht
      obtain ⟨L1, hL1⟩ : ∃ L, codesL (s).data.toList = L := ⟨_, rfl⟩
      obtain ⟨L2, hL2⟩ : ∃ L, codesL t.data.toList = L := ⟨_, rfl⟩
      have hl1 : L1.length ≤ 401 := by rw [← hL1]; exact codesL_len2 _ 200 (by omega)
      have hl2 : L2.length ≤ 401 := by rw [← hL2]; have := codesL_len2 t 160 (by omega); omega
      have HL1 := Lib.hid hL1; clear hL1
      have HL2 := Lib.hid hL2; clear hL2
      have HM3 := Lib.hid ((HM.out).keep hb4)
      go_region_held3 (fun W => Below w2.heap.size w2 W)
        (first
          | exact (Below.refl _ _).drew
          | exact Below.refl _ _
          | assumption)
        (first
          | (go_at_call_of 24 (Value.string s); refine (codes_any s _ ((HM3.out).keep (by assumption)) (by omega)).mono ?_; rintro e x3 ⟨v3, rfl, hown3, ha3⟩; rw [HL1.out] at hown3; obtain ⟨A3, c3, hv3, _, hr3⟩ := own_slice hown3; subst hv3; have f3 : Below w2.heap.size w2 x3 := up ha3 (by assumption))
          | (go_at_call_of 25 (Value.string s); refine (rcodes_any s _ (by omega)).mono ?_; rintro e x4 ⟨v4, rfl, hown4, ha4⟩; rw [HL1.out] at hown4; obtain ⟨A4, c4, hv4, _, hr4⟩ := own_slice hown4; subst hv4; have f4 : Below w2.heap.size w2 x4 := up ha4 (by assumption))
          | (go_at_call_of 19 (Value.slice A3 L1.length c3); refine (ints_yes A3 A4 c3 c4 _ _ L1 L1 rfl rfl _ (hr3.below ha4) hr4 (by omega) (eqI_self _)).mono ?_; rintro e x5 ⟨rfl, ha5⟩; have f5 : Below w2.heap.size w2 x5 := up ha5 (by assumption))
          | (go_at_call_of 24 (Value.string t); refine (codes_any t _ ((HM3.out).keep (by assumption)) (by omega)).mono ?_; rintro e x6 ⟨v6, rfl, hown6, ha6⟩; rw [HL2.out] at hown6; obtain ⟨A6, c6, hv6, _, hr6⟩ := own_slice hown6; subst hv6; have f6 : Below w2.heap.size w2 x6 := up ha6 (by assumption))
          | (go_at_call_of 25 (Value.string t); refine (rcodes_any t _ (by omega)).mono ?_; rintro e x7 ⟨v7, rfl, hown7, ha7⟩; rw [HL2.out] at hown7; obtain ⟨A7, c7, hv7, _, hr7⟩ := own_slice hown7; subst hv7; have f7 : Below w2.heap.size w2 x7 := up ha7 (by assumption))
          | (go_at_call_of 19 (Value.slice A6 L2.length c6); refine (ints_yes A6 A7 c6 c7 _ _ L2 L2 rfl rfl _ (hr6.below ha7) hr7 (by omega) (eqI_self _)).mono ?_; rintro e x8 ⟨rfl, ha8⟩; have f8 : Below w2.heap.size w2 x8 := up ha8 (by assumption))
          | (go_at_call 16; refine (works_any _ ((HM3.out).keep (by assumption))).mono ?_; rintro e x9 ⟨rfl, ha9⟩; have f9 : Below w2.heap.size w2 x9 := up ha9 (by assumption)))
      go_wp2
      go_ret
      exact ⟨rfl, up5' hb4 f9⟩
    · obtain ⟨m, hmm⟩ : ∃ m : Nat, m = at_.toNat % g.size := ⟨_, rfl⟩
      have hml : m < g.size := by rw [hmm]; exact Nat.mod_lt _ hg0
      have em : (at_.toNat : Int) % (g.size : Int) = (m : Int) := by rw [hmm]; exact (Int.natCast_emod _ _).symm
      have em2 : (at_.toNat : Int).tmod (g.size : Int) = (m : Int) := by rw [Int.tmod_eq_emod_of_nonneg (by omega)]; exact em
      have t1 : (0 : Int) < (g.size : Int) := by omega
      have t2 : ((g.size : Int) == 0) = false := by rw [beq_eq_false_iff_ne]; omega
      obtain ⟨hfz, u, hcl⟩ := HB2.out.2.2 m hml
      clear hmm
      go_wp2_with fail
      obtain ⟨w3, hw3⟩ : ∃ w3, w2.setCell ⟨w1.heap.size, m, none⟩ (.int .u8 (b.toNat : Int)) = w3 := ⟨_, rfl⟩
      obtain ⟨M, hM⟩ : ∃ M, g.data.toList.set m b = M := ⟨_, rfl⟩
      have HML := Lib.hid (show M.length = g.size by rw [← hM, List.length_set]; rfl)
      have HRM := Lib.hid (show Rd w3 (some ⟨w1.heap.size, 0, none⟩) (cB M) by rw [← hM, ← hw3]; exact Rd.set_ HR1.out m b)
      have hb4 : Below w.heap.size w w3 := by rw [← hw3]; exact hb3.setCell (p := ⟨w1.heap.size, m, none⟩) hbs1 _
      rw [hw3]
      clear hM hw3 hcv hcl hfz em em2 t1 t2
      obtain ⟨t, ht⟩ : ∃ t : ByteArray, (⟨M.toArray⟩ : ByteArray) = t := ⟨_, rfl⟩
      have hts : t.size ≤ 160 := by rw [← ht]; show M.length ≤ 160; rw [HML.out]; omega
      have hcvt : ∀ W, Below w3.heap.size w3 W → (convert 30 9 (.slice (some ⟨w1.heap.size, 0, none⟩) g.size c1)).run Tryd.prog W = .ok (.string t) W := fun W hW => by
        rw [← ht, ← HML.out]
        exact run_str (P := Tryd.prog) W 30 9 5 _ c1 M Tryd.underlying30 Tryd.underlying5 Tryd.underlying9 ((HRM.out).below hW)
      clear ht
      obtain ⟨L1, hL1⟩ : ∃ L, codesL (s).data.toList = L := ⟨_, rfl⟩
      obtain ⟨L2, hL2⟩ : ∃ L, codesL t.data.toList = L := ⟨_, rfl⟩
      have hl1 : L1.length ≤ 401 := by rw [← hL1]; exact codesL_len2 _ 200 (by omega)
      have hl2 : L2.length ≤ 401 := by rw [← hL2]; have := codesL_len2 t 160 (by omega); omega
      have HL1 := Lib.hid hL1; clear hL1
      have HL2 := Lib.hid hL2; clear hL2
      have HM3 := Lib.hid ((HM.out).keep hb4)
      go_region_held3 (fun W => Below w3.heap.size w3 W)
        (first
          | exact (Below.refl _ _).drew
          | exact Below.refl _ _
          | assumption)
        (first
          | (go_at_call_of 24 (Value.string s); refine (codes_any s _ ((HM3.out).keep (by assumption)) (by omega)).mono ?_; rintro e x3 ⟨v3, rfl, hown3, ha3⟩; rw [HL1.out] at hown3; obtain ⟨A3, c3, hv3, _, hr3⟩ := own_slice hown3; subst hv3; have f3 : Below w3.heap.size w3 x3 := up ha3 (by assumption))
          | (go_at_call_of 25 (Value.string s); refine (rcodes_any s _ (by omega)).mono ?_; rintro e x4 ⟨v4, rfl, hown4, ha4⟩; rw [HL1.out] at hown4; obtain ⟨A4, c4, hv4, _, hr4⟩ := own_slice hown4; subst hv4; have f4 : Below w3.heap.size w3 x4 := up ha4 (by assumption))
          | (go_at_call_of 19 (Value.slice A3 L1.length c3); refine (ints_yes A3 A4 c3 c4 _ _ L1 L1 rfl rfl _ (hr3.below ha4) hr4 (by omega) (eqI_self _)).mono ?_; rintro e x5 ⟨rfl, ha5⟩; have f5 : Below w3.heap.size w3 x5 := up ha5 (by assumption))
          | (go_at_call_of 24 (Value.string t); refine (codes_any t _ ((HM3.out).keep (by assumption)) (by omega)).mono ?_; rintro e x6 ⟨v6, rfl, hown6, ha6⟩; rw [HL2.out] at hown6; obtain ⟨A6, c6, hv6, _, hr6⟩ := own_slice hown6; subst hv6; have f6 : Below w3.heap.size w3 x6 := up ha6 (by assumption))
          | (go_at_call_of 25 (Value.string t); refine (rcodes_any t _ (by omega)).mono ?_; rintro e x7 ⟨v7, rfl, hown7, ha7⟩; rw [HL2.out] at hown7; obtain ⟨A7, c7, hv7, _, hr7⟩ := own_slice hown7; subst hv7; have f7 : Below w3.heap.size w3 x7 := up ha7 (by assumption))
          | (go_at_call_of 19 (Value.slice A6 L2.length c6); refine (ints_yes A6 A7 c6 c7 _ _ L2 L2 rfl rfl _ (hr6.below ha7) hr7 (by omega) (eqI_self _)).mono ?_; rintro e x8 ⟨rfl, ha8⟩; have f8 : Below w3.heap.size w3 x8 := up ha8 (by assumption))
          | (go_at_call 16; refine (works_any _ ((HM3.out).keep (by assumption))).mono ?_; rintro e x9 ⟨rfl, ha9⟩; have f9 : Below w3.heap.size w3 x9 := up ha9 (by assumption)))
      go_wp2
      go_ret
      exact ⟨rfl, up5' hb4 f9⟩
  · go_enter Tryd.func5, Tryd.ntmps5
    go_wp2_with fail
    obtain ⟨P, hP⟩ : ∃ P, xs.take 40 = P := ⟨_, rfl⟩
    have RP := Lib.hid (show Rd w A (cI P) by rw [← hP, cI_take]; exact (HX.out).take _)
    have RPL := Lib.hid (show P.length = 40 by rw [← hP, List.length_take, Hn.out]; omega)
    clear hP HX
    refine (rtext_any A d _ P RPL.out _ RP.out (by rw [RPL.out]; omega)).mono ?_
    rintro e w1 ⟨rfl, hb1⟩
    obtain ⟨g, hg⟩ : ∃ g : ByteArray, (⟨(textL P).toArray⟩ : ByteArray) = g := ⟨_, rfl⟩
    have hgs : g.size ≤ 160 := by
      rw [← hg]
      have := textL_len P
      rw [RPL.out] at this
      show (textL P).length ≤ 160
      omega
    rw [hg]
    clear hg
    obtain ⟨c1, w2, hcv, hc1, hr1, hb2⟩ := bytes_of' (P := Tryd.prog) w1 9 30 5 g Tryd.underlying9 Tryd.underlying30 Tryd.underlying5
    have hb3 := up5' hb1 hb2.2.1
    have hbs1 := hb1.size
    have HR1 := Lib.hid hr1
    have HB2 := Lib.hid hb2
    clear hr1 hb2 hb1
    rcases (show g.size = 0 ∨ 0 < g.size by omega) with hg0 | hg0
    · have t3 : decide ((0 : Int) < (g.size : Int)) = false := decide_eq_false (by omega)
      have t4 : ¬ 0 < g.size := by omega
      have Hg0 := Lib.hid hg0; clear hg0
      go_wp2_with fail
      obtain ⟨w3, hw3⟩ : ∃ w3, w2 = w3 := ⟨_, rfl⟩
      subst hw3
      obtain ⟨M, hM⟩ : ∃ M, g.data.toList = M := ⟨_, rfl⟩
      have HML := Lib.hid (show M.length = g.size by rw [← hM]; rfl)
      have HRM := Lib.hid (show Rd w2 (some ⟨w1.heap.size, 0, none⟩) (cB M) by rw [← hM]; exact HR1.out)
      have hb4 := hb3
      clear hM hcv
      obtain ⟨t, ht⟩ : ∃ t : ByteArray, (⟨M.toArray⟩ : ByteArray) = t := ⟨_, rfl⟩
      have hts : t.size ≤ 160 := by rw [← ht]; show M.length ≤ 160; rw [HML.out]; omega
      have hcvt : ∀ W, Below w2.heap.size w2 W → (convert 30 9 (.slice (some ⟨w1.heap.size, 0, none⟩) g.size c1)).run Tryd.prog W = .ok (.string t) W := fun W hW => by
        rw [← ht, ← HML.out]
        exact run_str (P := Tryd.prog) W 30 9 5 _ c1 M Tryd.underlying30 Tryd.underlying5 Tryd.underlying9 ((HRM.out).below hW)
      clear ht
      obtain ⟨L1, hL1⟩ : ∃ L, codesL (s).data.toList = L := ⟨_, rfl⟩
      obtain ⟨L2, hL2⟩ : ∃ L, codesL t.data.toList = L := ⟨_, rfl⟩
      have hl1 : L1.length ≤ 401 := by rw [← hL1]; exact codesL_len2 _ 200 (by omega)
      have hl2 : L2.length ≤ 401 := by rw [← hL2]; have := codesL_len2 t 160 (by omega); omega
      have HL1 := Lib.hid hL1; clear hL1
      have HL2 := Lib.hid hL2; clear hL2
      have HM3 := Lib.hid ((HM.out).keep hb4)
      go_region_held3 (fun W => Below w2.heap.size w2 W)
        (first
          | exact (Below.refl _ _).drew
          | exact Below.refl _ _
          | assumption)
        (first
          | (go_at_call_of 24 (Value.string s); refine (codes_any s _ ((HM3.out).keep (by assumption)) (by omega)).mono ?_; rintro e x3 ⟨v3, rfl, hown3, ha3⟩; rw [HL1.out] at hown3; obtain ⟨A3, c3, hv3, _, hr3⟩ := own_slice hown3; subst hv3; have f3 : Below w2.heap.size w2 x3 := up ha3 (by assumption))
          | (go_at_call_of 25 (Value.string s); refine (rcodes_any s _ (by omega)).mono ?_; rintro e x4 ⟨v4, rfl, hown4, ha4⟩; rw [HL1.out] at hown4; obtain ⟨A4, c4, hv4, _, hr4⟩ := own_slice hown4; subst hv4; have f4 : Below w2.heap.size w2 x4 := up ha4 (by assumption))
          | (go_at_call_of 19 (Value.slice A3 L1.length c3); refine (ints_yes A3 A4 c3 c4 _ _ L1 L1 rfl rfl _ (hr3.below ha4) hr4 (by omega) (eqI_self _)).mono ?_; rintro e x5 ⟨rfl, ha5⟩; have f5 : Below w2.heap.size w2 x5 := up ha5 (by assumption))
          | (go_at_call_of 24 (Value.string t); refine (codes_any t _ ((HM3.out).keep (by assumption)) (by omega)).mono ?_; rintro e x6 ⟨v6, rfl, hown6, ha6⟩; rw [HL2.out] at hown6; obtain ⟨A6, c6, hv6, _, hr6⟩ := own_slice hown6; subst hv6; have f6 : Below w2.heap.size w2 x6 := up ha6 (by assumption))
          | (go_at_call_of 25 (Value.string t); refine (rcodes_any t _ (by omega)).mono ?_; rintro e x7 ⟨v7, rfl, hown7, ha7⟩; rw [HL2.out] at hown7; obtain ⟨A7, c7, hv7, _, hr7⟩ := own_slice hown7; subst hv7; have f7 : Below w2.heap.size w2 x7 := up ha7 (by assumption))
          | (go_at_call_of 19 (Value.slice A6 L2.length c6); refine (ints_yes A6 A7 c6 c7 _ _ L2 L2 rfl rfl _ (hr6.below ha7) hr7 (by omega) (eqI_self _)).mono ?_; rintro e x8 ⟨rfl, ha8⟩; have f8 : Below w2.heap.size w2 x8 := up ha8 (by assumption))
          | (go_at_call 16; refine (works_any _ ((HM3.out).keep (by assumption))).mono ?_; rintro e x9 ⟨rfl, ha9⟩; have f9 : Below w2.heap.size w2 x9 := up ha9 (by assumption)))
      go_wp2
      go_ret
      exact ⟨rfl, up5' hb4 f9⟩
    · obtain ⟨m, hmm⟩ : ∃ m : Nat, m = at_.toNat % g.size := ⟨_, rfl⟩
      have hml : m < g.size := by rw [hmm]; exact Nat.mod_lt _ hg0
      have em : (at_.toNat : Int) % (g.size : Int) = (m : Int) := by rw [hmm]; exact (Int.natCast_emod _ _).symm
      have em2 : (at_.toNat : Int).tmod (g.size : Int) = (m : Int) := by rw [Int.tmod_eq_emod_of_nonneg (by omega)]; exact em
      have t1 : (0 : Int) < (g.size : Int) := by omega
      have t2 : ((g.size : Int) == 0) = false := by rw [beq_eq_false_iff_ne]; omega
      obtain ⟨hfz, u, hcl⟩ := HB2.out.2.2 m hml
      clear hmm
      go_wp2_with fail
      obtain ⟨w3, hw3⟩ : ∃ w3, w2.setCell ⟨w1.heap.size, m, none⟩ (.int .u8 (b.toNat : Int)) = w3 := ⟨_, rfl⟩
      obtain ⟨M, hM⟩ : ∃ M, g.data.toList.set m b = M := ⟨_, rfl⟩
      have HML := Lib.hid (show M.length = g.size by rw [← hM, List.length_set]; rfl)
      have HRM := Lib.hid (show Rd w3 (some ⟨w1.heap.size, 0, none⟩) (cB M) by rw [← hM, ← hw3]; exact Rd.set_ HR1.out m b)
      have hb4 : Below w.heap.size w w3 := by rw [← hw3]; exact hb3.setCell (p := ⟨w1.heap.size, m, none⟩) hbs1 _
      rw [hw3]
      clear hM hw3 hcv hcl hfz em em2 t1 t2
      obtain ⟨t, ht⟩ : ∃ t : ByteArray, (⟨M.toArray⟩ : ByteArray) = t := ⟨_, rfl⟩
      have hts : t.size ≤ 160 := by rw [← ht]; show M.length ≤ 160; rw [HML.out]; omega
      have hcvt : ∀ W, Below w3.heap.size w3 W → (convert 30 9 (.slice (some ⟨w1.heap.size, 0, none⟩) g.size c1)).run Tryd.prog W = .ok (.string t) W := fun W hW => by
        rw [← ht, ← HML.out]
        exact run_str (P := Tryd.prog) W 30 9 5 _ c1 M Tryd.underlying30 Tryd.underlying5 Tryd.underlying9 ((HRM.out).below hW)
      clear ht
      obtain ⟨L1, hL1⟩ : ∃ L, codesL (s).data.toList = L := ⟨_, rfl⟩
      obtain ⟨L2, hL2⟩ : ∃ L, codesL t.data.toList = L := ⟨_, rfl⟩
      have hl1 : L1.length ≤ 401 := by rw [← hL1]; exact codesL_len2 _ 200 (by omega)
      have hl2 : L2.length ≤ 401 := by rw [← hL2]; have := codesL_len2 t 160 (by omega); omega
      have HL1 := Lib.hid hL1; clear hL1
      have HL2 := Lib.hid hL2; clear hL2
      have HM3 := Lib.hid ((HM.out).keep hb4)
      go_region_held3 (fun W => Below w3.heap.size w3 W)
        (first
          | exact (Below.refl _ _).drew
          | exact Below.refl _ _
          | assumption)
        (first
          | (go_at_call_of 24 (Value.string s); refine (codes_any s _ ((HM3.out).keep (by assumption)) (by omega)).mono ?_; rintro e x3 ⟨v3, rfl, hown3, ha3⟩; rw [HL1.out] at hown3; obtain ⟨A3, c3, hv3, _, hr3⟩ := own_slice hown3; subst hv3; have f3 : Below w3.heap.size w3 x3 := up ha3 (by assumption))
          | (go_at_call_of 25 (Value.string s); refine (rcodes_any s _ (by omega)).mono ?_; rintro e x4 ⟨v4, rfl, hown4, ha4⟩; rw [HL1.out] at hown4; obtain ⟨A4, c4, hv4, _, hr4⟩ := own_slice hown4; subst hv4; have f4 : Below w3.heap.size w3 x4 := up ha4 (by assumption))
          | (go_at_call_of 19 (Value.slice A3 L1.length c3); refine (ints_yes A3 A4 c3 c4 _ _ L1 L1 rfl rfl _ (hr3.below ha4) hr4 (by omega) (eqI_self _)).mono ?_; rintro e x5 ⟨rfl, ha5⟩; have f5 : Below w3.heap.size w3 x5 := up ha5 (by assumption))
          | (go_at_call_of 24 (Value.string t); refine (codes_any t _ ((HM3.out).keep (by assumption)) (by omega)).mono ?_; rintro e x6 ⟨v6, rfl, hown6, ha6⟩; rw [HL2.out] at hown6; obtain ⟨A6, c6, hv6, _, hr6⟩ := own_slice hown6; subst hv6; have f6 : Below w3.heap.size w3 x6 := up ha6 (by assumption))
          | (go_at_call_of 25 (Value.string t); refine (rcodes_any t _ (by omega)).mono ?_; rintro e x7 ⟨v7, rfl, hown7, ha7⟩; rw [HL2.out] at hown7; obtain ⟨A7, c7, hv7, _, hr7⟩ := own_slice hown7; subst hv7; have f7 : Below w3.heap.size w3 x7 := up ha7 (by assumption))
          | (go_at_call_of 19 (Value.slice A6 L2.length c6); refine (ints_yes A6 A7 c6 c7 _ _ L2 L2 rfl rfl _ (hr6.below ha7) hr7 (by omega) (eqI_self _)).mono ?_; rintro e x8 ⟨rfl, ha8⟩; have f8 : Below w3.heap.size w3 x8 := up ha8 (by assumption))
          | (go_at_call 16; refine (works_any _ ((HM3.out).keep (by assumption))).mono ?_; rintro e x9 ⟨rfl, ha9⟩; have f9 : Below w3.heap.size w3 x9 := up ha9 (by assumption)))
      go_wp2
      go_ret
      exact ⟨rfl, up5' hb4 f9⟩
  · go_enter Tryd.func5, Tryd.ntmps5
    go_wp2_with fail
    obtain ⟨s', hs'⟩ : ∃ s', s.extract 0 200 = s' := ⟨_, rfl⟩
    have hs1 : s'.size ≤ 200 := by rw [← hs', ByteArray.size_extract]; omega
    rw [hs']
    clear hs'
    obtain ⟨P, hP⟩ : ∃ P, xs.take n = P := ⟨_, rfl⟩
    have RP := Lib.hid (show Rd w A (cI P) by rw [← hP, cI_take]; exact (HX.out).take _)
    have RPL := Lib.hid (show P.length = n by rw [← hP, List.length_take, Hn.out]; omega)
    clear hP HX
    refine (rtext_any A d _ P RPL.out _ RP.out (by rw [RPL.out]; omega)).mono ?_
    rintro e w1 ⟨rfl, hb1⟩
    obtain ⟨g, hg⟩ : ∃ g : ByteArray, (⟨(textL P).toArray⟩ : ByteArray) = g := ⟨_, rfl⟩
    have hgs : g.size ≤ 160 := by
      rw [← hg]
      have := textL_len P
      rw [RPL.out] at this
      show (textL P).length ≤ 160
      omega
    rw [hg]
    clear hg
    obtain ⟨c1, w2, hcv, hc1, hr1, hb2⟩ := bytes_of' (P := Tryd.prog) w1 9 30 5 g Tryd.underlying9 Tryd.underlying30 Tryd.underlying5
    have hb3 := up5' hb1 hb2.2.1
    have hbs1 := hb1.size
    have HR1 := Lib.hid hr1
    have HB2 := Lib.hid hb2
    clear hr1 hb2 hb1
    rcases (show g.size = 0 ∨ 0 < g.size by omega) with hg0 | hg0
    · have t3 : decide ((0 : Int) < (g.size : Int)) = false := decide_eq_false (by omega)
      have t4 : ¬ 0 < g.size := by omega
      have Hg0 := Lib.hid hg0; clear hg0
      go_wp2_with fail
      obtain ⟨w3, hw3⟩ : ∃ w3, w2 = w3 := ⟨_, rfl⟩
      subst hw3
      obtain ⟨M, hM⟩ : ∃ M, g.data.toList = M := ⟨_, rfl⟩
      have HML := Lib.hid (show M.length = g.size by rw [← hM]; rfl)
      have HRM := Lib.hid (show Rd w2 (some ⟨w1.heap.size, 0, none⟩) (cB M) by rw [← hM]; exact HR1.out)
      have hb4 := hb3
      clear hM hcv
      obtain ⟨t, ht⟩ : ∃ t : ByteArray, (⟨M.toArray⟩ : ByteArray) = t := ⟨_, rfl⟩
      have hts : t.size ≤ 160 := by rw [← ht]; show M.length ≤ 160; rw [HML.out]; omega
      have hcvt : ∀ W, Below w2.heap.size w2 W → (convert 30 9 (.slice (some ⟨w1.heap.size, 0, none⟩) g.size c1)).run Tryd.prog W = .ok (.string t) W := fun W hW => by
        rw [← ht, ← HML.out]
        exact run_str (P := Tryd.prog) W 30 9 5 _ c1 M Tryd.underlying30 Tryd.underlying5 Tryd.underlying9 ((HRM.out).below hW)
      clear ht
      obtain ⟨L1, hL1⟩ : ∃ L, codesL (s').data.toList = L := ⟨_, rfl⟩
      obtain ⟨L2, hL2⟩ : ∃ L, codesL t.data.toList = L := ⟨_, rfl⟩
      have hl1 : L1.length ≤ 401 := by rw [← hL1]; exact codesL_len2 _ 200 (by omega)
      have hl2 : L2.length ≤ 401 := by rw [← hL2]; have := codesL_len2 t 160 (by omega); omega
      have HL1 := Lib.hid hL1; clear hL1
      have HL2 := Lib.hid hL2; clear hL2
      have HM3 := Lib.hid ((HM.out).keep hb4)
      go_region_held3 (fun W => Below w2.heap.size w2 W)
        (first
          | exact (Below.refl _ _).drew
          | exact Below.refl _ _
          | assumption)
        (first
          | (go_at_call_of 24 (Value.string s'); refine (codes_any s' _ ((HM3.out).keep (by assumption)) (by omega)).mono ?_; rintro e x3 ⟨v3, rfl, hown3, ha3⟩; rw [HL1.out] at hown3; obtain ⟨A3, c3, hv3, _, hr3⟩ := own_slice hown3; subst hv3; have f3 : Below w2.heap.size w2 x3 := up ha3 (by assumption))
          | (go_at_call_of 25 (Value.string s'); refine (rcodes_any s' _ (by omega)).mono ?_; rintro e x4 ⟨v4, rfl, hown4, ha4⟩; rw [HL1.out] at hown4; obtain ⟨A4, c4, hv4, _, hr4⟩ := own_slice hown4; subst hv4; have f4 : Below w2.heap.size w2 x4 := up ha4 (by assumption))
          | (go_at_call_of 19 (Value.slice A3 L1.length c3); refine (ints_yes A3 A4 c3 c4 _ _ L1 L1 rfl rfl _ (hr3.below ha4) hr4 (by omega) (eqI_self _)).mono ?_; rintro e x5 ⟨rfl, ha5⟩; have f5 : Below w2.heap.size w2 x5 := up ha5 (by assumption))
          | (go_at_call_of 24 (Value.string t); refine (codes_any t _ ((HM3.out).keep (by assumption)) (by omega)).mono ?_; rintro e x6 ⟨v6, rfl, hown6, ha6⟩; rw [HL2.out] at hown6; obtain ⟨A6, c6, hv6, _, hr6⟩ := own_slice hown6; subst hv6; have f6 : Below w2.heap.size w2 x6 := up ha6 (by assumption))
          | (go_at_call_of 25 (Value.string t); refine (rcodes_any t _ (by omega)).mono ?_; rintro e x7 ⟨v7, rfl, hown7, ha7⟩; rw [HL2.out] at hown7; obtain ⟨A7, c7, hv7, _, hr7⟩ := own_slice hown7; subst hv7; have f7 : Below w2.heap.size w2 x7 := up ha7 (by assumption))
          | (go_at_call_of 19 (Value.slice A6 L2.length c6); refine (ints_yes A6 A7 c6 c7 _ _ L2 L2 rfl rfl _ (hr6.below ha7) hr7 (by omega) (eqI_self _)).mono ?_; rintro e x8 ⟨rfl, ha8⟩; have f8 : Below w2.heap.size w2 x8 := up ha8 (by assumption))
          | (go_at_call 16; refine (works_any _ ((HM3.out).keep (by assumption))).mono ?_; rintro e x9 ⟨rfl, ha9⟩; have f9 : Below w2.heap.size w2 x9 := up ha9 (by assumption)))
      go_wp2
      go_ret
      exact ⟨rfl, up5' hb4 f9⟩
    · obtain ⟨m, hmm⟩ : ∃ m : Nat, m = at_.toNat % g.size := ⟨_, rfl⟩
      have hml : m < g.size := by rw [hmm]; exact Nat.mod_lt _ hg0
      have em : (at_.toNat : Int) % (g.size : Int) = (m : Int) := by rw [hmm]; exact (Int.natCast_emod _ _).symm
      have em2 : (at_.toNat : Int).tmod (g.size : Int) = (m : Int) := by rw [Int.tmod_eq_emod_of_nonneg (by omega)]; exact em
      have t1 : (0 : Int) < (g.size : Int) := by omega
      have t2 : ((g.size : Int) == 0) = false := by rw [beq_eq_false_iff_ne]; omega
      obtain ⟨hfz, u, hcl⟩ := HB2.out.2.2 m hml
      clear hmm
      go_wp2_with fail
      obtain ⟨w3, hw3⟩ : ∃ w3, w2.setCell ⟨w1.heap.size, m, none⟩ (.int .u8 (b.toNat : Int)) = w3 := ⟨_, rfl⟩
      obtain ⟨M, hM⟩ : ∃ M, g.data.toList.set m b = M := ⟨_, rfl⟩
      have HML := Lib.hid (show M.length = g.size by rw [← hM, List.length_set]; rfl)
      have HRM := Lib.hid (show Rd w3 (some ⟨w1.heap.size, 0, none⟩) (cB M) by rw [← hM, ← hw3]; exact Rd.set_ HR1.out m b)
      have hb4 : Below w.heap.size w w3 := by rw [← hw3]; exact hb3.setCell (p := ⟨w1.heap.size, m, none⟩) hbs1 _
      rw [hw3]
      clear hM hw3 hcv hcl hfz em em2 t1 t2
      obtain ⟨t, ht⟩ : ∃ t : ByteArray, (⟨M.toArray⟩ : ByteArray) = t := ⟨_, rfl⟩
      have hts : t.size ≤ 160 := by rw [← ht]; show M.length ≤ 160; rw [HML.out]; omega
      have hcvt : ∀ W, Below w3.heap.size w3 W → (convert 30 9 (.slice (some ⟨w1.heap.size, 0, none⟩) g.size c1)).run Tryd.prog W = .ok (.string t) W := fun W hW => by
        rw [← ht, ← HML.out]
        exact run_str (P := Tryd.prog) W 30 9 5 _ c1 M Tryd.underlying30 Tryd.underlying5 Tryd.underlying9 ((HRM.out).below hW)
      clear ht
      obtain ⟨L1, hL1⟩ : ∃ L, codesL (s').data.toList = L := ⟨_, rfl⟩
      obtain ⟨L2, hL2⟩ : ∃ L, codesL t.data.toList = L := ⟨_, rfl⟩
      have hl1 : L1.length ≤ 401 := by rw [← hL1]; exact codesL_len2 _ 200 (by omega)
      have hl2 : L2.length ≤ 401 := by rw [← hL2]; have := codesL_len2 t 160 (by omega); omega
      have HL1 := Lib.hid hL1; clear hL1
      have HL2 := Lib.hid hL2; clear hL2
      have HM3 := Lib.hid ((HM.out).keep hb4)
      go_region_held3 (fun W => Below w3.heap.size w3 W)
        (first
          | exact (Below.refl _ _).drew
          | exact Below.refl _ _
          | assumption)
        (first
          | (go_at_call_of 24 (Value.string s'); refine (codes_any s' _ ((HM3.out).keep (by assumption)) (by omega)).mono ?_; rintro e x3 ⟨v3, rfl, hown3, ha3⟩; rw [HL1.out] at hown3; obtain ⟨A3, c3, hv3, _, hr3⟩ := own_slice hown3; subst hv3; have f3 : Below w3.heap.size w3 x3 := up ha3 (by assumption))
          | (go_at_call_of 25 (Value.string s'); refine (rcodes_any s' _ (by omega)).mono ?_; rintro e x4 ⟨v4, rfl, hown4, ha4⟩; rw [HL1.out] at hown4; obtain ⟨A4, c4, hv4, _, hr4⟩ := own_slice hown4; subst hv4; have f4 : Below w3.heap.size w3 x4 := up ha4 (by assumption))
          | (go_at_call_of 19 (Value.slice A3 L1.length c3); refine (ints_yes A3 A4 c3 c4 _ _ L1 L1 rfl rfl _ (hr3.below ha4) hr4 (by omega) (eqI_self _)).mono ?_; rintro e x5 ⟨rfl, ha5⟩; have f5 : Below w3.heap.size w3 x5 := up ha5 (by assumption))
          | (go_at_call_of 24 (Value.string t); refine (codes_any t _ ((HM3.out).keep (by assumption)) (by omega)).mono ?_; rintro e x6 ⟨v6, rfl, hown6, ha6⟩; rw [HL2.out] at hown6; obtain ⟨A6, c6, hv6, _, hr6⟩ := own_slice hown6; subst hv6; have f6 : Below w3.heap.size w3 x6 := up ha6 (by assumption))
          | (go_at_call_of 25 (Value.string t); refine (rcodes_any t _ (by omega)).mono ?_; rintro e x7 ⟨v7, rfl, hown7, ha7⟩; rw [HL2.out] at hown7; obtain ⟨A7, c7, hv7, _, hr7⟩ := own_slice hown7; subst hv7; have f7 : Below w3.heap.size w3 x7 := up ha7 (by assumption))
          | (go_at_call_of 19 (Value.slice A6 L2.length c6); refine (ints_yes A6 A7 c6 c7 _ _ L2 L2 rfl rfl _ (hr6.below ha7) hr7 (by omega) (eqI_self _)).mono ?_; rintro e x8 ⟨rfl, ha8⟩; have f8 : Below w3.heap.size w3 x8 := up ha8 (by assumption))
          | (go_at_call 16; refine (works_any _ ((HM3.out).keep (by assumption))).mono ?_; rintro e x9 ⟨rfl, ha9⟩; have f9 : Below w3.heap.size w3 x9 := up ha9 (by assumption)))
      go_wp2
      go_ret
      exact ⟨rfl, up5' hb4 f9⟩
  · go_enter Tryd.func5, Tryd.ntmps5
    go_wp2_with fail
    obtain ⟨s', hs'⟩ : ∃ s', s.extract 0 200 = s' := ⟨_, rfl⟩
    have hs1 : s'.size ≤ 200 := by rw [← hs', ByteArray.size_extract]; omega
    rw [hs']
    clear hs'
    obtain ⟨P, hP⟩ : ∃ P, xs.take 40 = P := ⟨_, rfl⟩
    have RP := Lib.hid (show Rd w A (cI P) by rw [← hP, cI_take]; exact (HX.out).take _)
    have RPL := Lib.hid (show P.length = 40 by rw [← hP, List.length_take, Hn.out]; omega)
    clear hP HX
    refine (rtext_any A d _ P RPL.out _ RP.out (by rw [RPL.out]; omega)).mono ?_
    rintro e w1 ⟨rfl, hb1⟩
    obtain ⟨g, hg⟩ : ∃ g : ByteArray, (⟨(textL P).toArray⟩ : ByteArray) = g := ⟨_, rfl⟩
    have hgs : g.size ≤ 160 := by
      rw [← hg]
      have := textL_len P
      rw [RPL.out] at this
      show (textL P).length ≤ 160
      omega
    rw [hg]
    clear hg
    obtain ⟨c1, w2, hcv, hc1, hr1, hb2⟩ := bytes_of' (P := Tryd.prog) w1 9 30 5 g Tryd.underlying9 Tryd.underlying30 Tryd.underlying5
    have hb3 := up5' hb1 hb2.2.1
    have hbs1 := hb1.size
    have HR1 := Lib.hid hr1
    have HB2 := Lib.hid hb2
    clear hr1 hb2 hb1
    rcases (show g.size = 0 ∨ 0 < g.size by omega) with hg0 | hg0
    · have t3 : decide ((0 : Int) < (g.size : Int)) = false := decide_eq_false (by omega)
      have t4 : ¬ 0 < g.size := by omega
      have Hg0 := Lib.hid hg0; clear hg0
      go_wp2_with fail
      obtain ⟨w3, hw3⟩ : ∃ w3, w2 = w3 := ⟨_, rfl⟩
      subst hw3
      obtain ⟨M, hM⟩ : ∃ M, g.data.toList = M := ⟨_, rfl⟩
      have HML := Lib.hid (show M.length = g.size by rw [← hM]; rfl)
      have HRM := Lib.hid (show Rd w2 (some ⟨w1.heap.size, 0, none⟩) (cB M) by rw [← hM]; exact HR1.out)
      have hb4 := hb3
      clear hM hcv
      obtain ⟨t, ht⟩ : ∃ t : ByteArray, (⟨M.toArray⟩ : ByteArray) = t := ⟨_, rfl⟩
      have hts : t.size ≤ 160 := by rw [← ht]; show M.length ≤ 160; rw [HML.out]; omega
      have hcvt : ∀ W, Below w2.heap.size w2 W → (convert 30 9 (.slice (some ⟨w1.heap.size, 0, none⟩) g.size c1)).run Tryd.prog W = .ok (.string t) W := fun W hW => by
        rw [← ht, ← HML.out]
        exact run_str (P := Tryd.prog) W 30 9 5 _ c1 M Tryd.underlying30 Tryd.underlying5 Tryd.underlying9 ((HRM.out).below hW)
      clear ht
      obtain ⟨L1, hL1⟩ : ∃ L, codesL (s').data.toList = L := ⟨_, rfl⟩
      obtain ⟨L2, hL2⟩ : ∃ L, codesL t.data.toList = L := ⟨_, rfl⟩
      have hl1 : L1.length ≤ 401 := by rw [← hL1]; exact codesL_len2 _ 200 (by omega)
      have hl2 : L2.length ≤ 401 := by rw [← hL2]; have := codesL_len2 t 160 (by omega); omega
      have HL1 := Lib.hid hL1; clear hL1
      have HL2 := Lib.hid hL2; clear hL2
      have HM3 := Lib.hid ((HM.out).keep hb4)
      go_region_held3 (fun W => Below w2.heap.size w2 W)
        (first
          | exact (Below.refl _ _).drew
          | exact Below.refl _ _
          | assumption)
        (first
          | (go_at_call_of 24 (Value.string s'); refine (codes_any s' _ ((HM3.out).keep (by assumption)) (by omega)).mono ?_; rintro e x3 ⟨v3, rfl, hown3, ha3⟩; rw [HL1.out] at hown3; obtain ⟨A3, c3, hv3, _, hr3⟩ := own_slice hown3; subst hv3; have f3 : Below w2.heap.size w2 x3 := up ha3 (by assumption))
          | (go_at_call_of 25 (Value.string s'); refine (rcodes_any s' _ (by omega)).mono ?_; rintro e x4 ⟨v4, rfl, hown4, ha4⟩; rw [HL1.out] at hown4; obtain ⟨A4, c4, hv4, _, hr4⟩ := own_slice hown4; subst hv4; have f4 : Below w2.heap.size w2 x4 := up ha4 (by assumption))
          | (go_at_call_of 19 (Value.slice A3 L1.length c3); refine (ints_yes A3 A4 c3 c4 _ _ L1 L1 rfl rfl _ (hr3.below ha4) hr4 (by omega) (eqI_self _)).mono ?_; rintro e x5 ⟨rfl, ha5⟩; have f5 : Below w2.heap.size w2 x5 := up ha5 (by assumption))
          | (go_at_call_of 24 (Value.string t); refine (codes_any t _ ((HM3.out).keep (by assumption)) (by omega)).mono ?_; rintro e x6 ⟨v6, rfl, hown6, ha6⟩; rw [HL2.out] at hown6; obtain ⟨A6, c6, hv6, _, hr6⟩ := own_slice hown6; subst hv6; have f6 : Below w2.heap.size w2 x6 := up ha6 (by assumption))
          | (go_at_call_of 25 (Value.string t); refine (rcodes_any t _ (by omega)).mono ?_; rintro e x7 ⟨v7, rfl, hown7, ha7⟩; rw [HL2.out] at hown7; obtain ⟨A7, c7, hv7, _, hr7⟩ := own_slice hown7; subst hv7; have f7 : Below w2.heap.size w2 x7 := up ha7 (by assumption))
          | (go_at_call_of 19 (Value.slice A6 L2.length c6); refine (ints_yes A6 A7 c6 c7 _ _ L2 L2 rfl rfl _ (hr6.below ha7) hr7 (by omega) (eqI_self _)).mono ?_; rintro e x8 ⟨rfl, ha8⟩; have f8 : Below w2.heap.size w2 x8 := up ha8 (by assumption))
          | (go_at_call 16; refine (works_any _ ((HM3.out).keep (by assumption))).mono ?_; rintro e x9 ⟨rfl, ha9⟩; have f9 : Below w2.heap.size w2 x9 := up ha9 (by assumption)))
      go_wp2
      go_ret
      exact ⟨rfl, up5' hb4 f9⟩
    · obtain ⟨m, hmm⟩ : ∃ m : Nat, m = at_.toNat % g.size := ⟨_, rfl⟩
      have hml : m < g.size := by rw [hmm]; exact Nat.mod_lt _ hg0
      have em : (at_.toNat : Int) % (g.size : Int) = (m : Int) := by rw [hmm]; exact (Int.natCast_emod _ _).symm
      have em2 : (at_.toNat : Int).tmod (g.size : Int) = (m : Int) := by rw [Int.tmod_eq_emod_of_nonneg (by omega)]; exact em
      have t1 : (0 : Int) < (g.size : Int) := by omega
      have t2 : ((g.size : Int) == 0) = false := by rw [beq_eq_false_iff_ne]; omega
      obtain ⟨hfz, u, hcl⟩ := HB2.out.2.2 m hml
      clear hmm
      go_wp2_with fail
      obtain ⟨w3, hw3⟩ : ∃ w3, w2.setCell ⟨w1.heap.size, m, none⟩ (.int .u8 (b.toNat : Int)) = w3 := ⟨_, rfl⟩
      obtain ⟨M, hM⟩ : ∃ M, g.data.toList.set m b = M := ⟨_, rfl⟩
      have HML := Lib.hid (show M.length = g.size by rw [← hM, List.length_set]; rfl)
      have HRM := Lib.hid (show Rd w3 (some ⟨w1.heap.size, 0, none⟩) (cB M) by rw [← hM, ← hw3]; exact Rd.set_ HR1.out m b)
      have hb4 : Below w.heap.size w w3 := by rw [← hw3]; exact hb3.setCell (p := ⟨w1.heap.size, m, none⟩) hbs1 _
      rw [hw3]
      clear hM hw3 hcv hcl hfz em em2 t1 t2
      obtain ⟨t, ht⟩ : ∃ t : ByteArray, (⟨M.toArray⟩ : ByteArray) = t := ⟨_, rfl⟩
      have hts : t.size ≤ 160 := by rw [← ht]; show M.length ≤ 160; rw [HML.out]; omega
      have hcvt : ∀ W, Below w3.heap.size w3 W → (convert 30 9 (.slice (some ⟨w1.heap.size, 0, none⟩) g.size c1)).run Tryd.prog W = .ok (.string t) W := fun W hW => by
        rw [← ht, ← HML.out]
        exact run_str (P := Tryd.prog) W 30 9 5 _ c1 M Tryd.underlying30 Tryd.underlying5 Tryd.underlying9 ((HRM.out).below hW)
      clear ht
      obtain ⟨L1, hL1⟩ : ∃ L, codesL (s').data.toList = L := ⟨_, rfl⟩
      obtain ⟨L2, hL2⟩ : ∃ L, codesL t.data.toList = L := ⟨_, rfl⟩
      have hl1 : L1.length ≤ 401 := by rw [← hL1]; exact codesL_len2 _ 200 (by omega)
      have hl2 : L2.length ≤ 401 := by rw [← hL2]; have := codesL_len2 t 160 (by omega); omega
      have HL1 := Lib.hid hL1; clear hL1
      have HL2 := Lib.hid hL2; clear hL2
      have HM3 := Lib.hid ((HM.out).keep hb4)
      go_region_held3 (fun W => Below w3.heap.size w3 W)
        (first
          | exact (Below.refl _ _).drew
          | exact Below.refl _ _
          | assumption)
        (first
          | (go_at_call_of 24 (Value.string s'); refine (codes_any s' _ ((HM3.out).keep (by assumption)) (by omega)).mono ?_; rintro e x3 ⟨v3, rfl, hown3, ha3⟩; rw [HL1.out] at hown3; obtain ⟨A3, c3, hv3, _, hr3⟩ := own_slice hown3; subst hv3; have f3 : Below w3.heap.size w3 x3 := up ha3 (by assumption))
          | (go_at_call_of 25 (Value.string s'); refine (rcodes_any s' _ (by omega)).mono ?_; rintro e x4 ⟨v4, rfl, hown4, ha4⟩; rw [HL1.out] at hown4; obtain ⟨A4, c4, hv4, _, hr4⟩ := own_slice hown4; subst hv4; have f4 : Below w3.heap.size w3 x4 := up ha4 (by assumption))
          | (go_at_call_of 19 (Value.slice A3 L1.length c3); refine (ints_yes A3 A4 c3 c4 _ _ L1 L1 rfl rfl _ (hr3.below ha4) hr4 (by omega) (eqI_self _)).mono ?_; rintro e x5 ⟨rfl, ha5⟩; have f5 : Below w3.heap.size w3 x5 := up ha5 (by assumption))
          | (go_at_call_of 24 (Value.string t); refine (codes_any t _ ((HM3.out).keep (by assumption)) (by omega)).mono ?_; rintro e x6 ⟨v6, rfl, hown6, ha6⟩; rw [HL2.out] at hown6; obtain ⟨A6, c6, hv6, _, hr6⟩ := own_slice hown6; subst hv6; have f6 : Below w3.heap.size w3 x6 := up ha6 (by assumption))
          | (go_at_call_of 25 (Value.string t); refine (rcodes_any t _ (by omega)).mono ?_; rintro e x7 ⟨v7, rfl, hown7, ha7⟩; rw [HL2.out] at hown7; obtain ⟨A7, c7, hv7, _, hr7⟩ := own_slice hown7; subst hv7; have f7 : Below w3.heap.size w3 x7 := up ha7 (by assumption))
          | (go_at_call_of 19 (Value.slice A6 L2.length c6); refine (ints_yes A6 A7 c6 c7 _ _ L2 L2 rfl rfl _ (hr6.below ha7) hr7 (by omega) (eqI_self _)).mono ?_; rintro e x8 ⟨rfl, ha8⟩; have f8 : Below w3.heap.size w3 x8 := up ha8 (by assumption))
          | (go_at_call 16; refine (works_any _ ((HM3.out).keep (by assumption))).mono ?_; rintro e x9 ⟨rfl, ha9⟩; have f9 : Below w3.heap.size w3 x9 := up ha9 (by assumption)))
      go_wp2
      go_ret
      exact ⟨rfl, up5' hb4 f9⟩
end Go.Proofs.YtciklknbllblmaaDoor.Utf
