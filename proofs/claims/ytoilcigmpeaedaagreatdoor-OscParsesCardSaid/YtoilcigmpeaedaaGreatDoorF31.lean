/-
  ColF ColG ColH ColJ ColI
-/
import Derived.Deep.RegionHeld3
import Derived.Test.YtoilcigmpeaedaaGreatDoorF17
import Derived.Test.YtoilcigmpeaedaaGreatDoorF25
namespace Go.Proofs.YtoilcigmpeaedaaGreatDoor.Col
open Go.RowKit Utf

theorem ret_cell1 {P : Program} {fn : Func} {p : Tmp} {ty : TypeId} (h : fn.results = #[.cell p ty]) (tmps : Array Value) (w : World) (a : Addr) (v : Value) (ha : tmps.getD p undef = .pointer (some a)) (hl : (loadVar ty a).run P w = .ok v w) :
    (results fn tmps).run P w = .ok v w := by
  have ha' : tmps[p]?.getD undef = .pointer (some a) := by simpa using ha
  simp only [results, h]
  simp [ha', asAddr, hl]
/-- the contracts at a known answer -/
theorem check_is (k n r : Int) (hr : errC k n = r) (w : World) (h : Tc w) : Calls Tryz.prog 50 #[.agg #[.int .i64 k, .int .i64 n]] w fun e w' => e = .returned (.int .i64 r) ∧ Below w.heap.size w w' := by
  subst hr; exact check_any k n w h
theorem rgb_is (k n : Int) (r : Int) (hr : rgbC k n = some r) (w : World) (h : Tc w) : Calls Tryz.prog 51 #[.agg #[.int .i64 k, .int .i64 n]] w fun e w' => e = .returned (.tuple #[.int .i64 r, .bool true]) ∧ Below w.heap.size w w' := by
  rw [rgbV_some k n r hr]; exact rgb_any k n w h
theorem rgb_not (k n : Int) (hr : rgbC k n = none) (w : World) (h : Tc w) : Calls Tryz.prog 51 #[.agg #[.int .i64 k, .int .i64 n]] w fun e w' => e = .returned (.tuple #[.int .i64 0, .bool false]) ∧ Below w.heap.size w w' := by
  rw [rgbV_none k n hr]; exact rgb_any k n w h
theorem text_is (k n : Int) (s : ByteArray) (r : Int) (hs : txtC k n = s) (hr : txtE k n = r) (w : World) (h : Tc w) : Calls Tryz.prog 25 #[.agg #[.int .i64 k, .int .i64 n]] w fun e w' => e = .returned (.tuple #[.string s, .int .i64 r]) ∧ Below w.heap.size w w' := by
  subst hs; subst hr; exact text_any k n w h
theorem parse_is (s : ByteArray) (n : Nat) (hn : parseL s.data.toList = some n) (w : World) : Calls Tryz.prog 66 #[.string s] w fun e w' => e = .returned (.tuple #[.agg #[.int .i64 2, .int .i64 (n : Int)], .int .i64 0]) ∧ Below w.heap.size w w' := by
  rw [prsV_some _ n hn]; exact parse_any s w
theorem parse_not (s : ByteArray) (hn : parseL s.data.toList = none) (w : World) : Calls Tryz.prog 66 #[.string s] w fun e w' => e = .returned (.tuple #[.agg #[.int .i64 0, .int .i64 0], .int .i64 6]) ∧ Below w.heap.size w w' := by
  rw [prsV_none _ hn]; exact parse_any s w

end Go.Proofs.YtoilcigmpeaedaaGreatDoor.Col

namespace Go.Proofs.YtoilcigmpeaedaaGreatDoor.Col
open Go.RowKit Utf

set_option maxRecDepth 100000 in
set_option maxHeartbeats 2000000 in
theorem rcheck_any (k n : Int) (w : World) : Calls Tryz.prog 60 #[colV k n] w fun e w' => e = .returned (.int .i64 (errC k n)) ∧ Below w.heap.size w w' := by
  unfold colV
  by_cases k0 : k = 0
  · subst k0
    by_cases n0 : n = 0
    · subst n0
      have hf := Lib.hid (errC_ok 0 0 (by omega))
      go_enter Tryz.func60, Tryz.ntmps60
      go_wp2
      go_ret
      exact ⟨by rw [hf.out]; rfl, below_box _ _⟩
    · have hf := Lib.hid (errC_no 0 n (by omega))
      have d0 : (n == 0) = false := by simp [n0]
      go_enter Tryz.func60, Tryz.ntmps60
      go_wp2
      go_ret
      exact ⟨by rw [hf.out]; rfl, below_box _ _⟩
  · have d0 : (k == 0) = false := by simp [k0]
    by_cases k1 : k = 1
    · subst k1
      by_cases n0 : 0 ≤ n
      · by_cases n1 : n ≤ 255
        · have hf := Lib.hid (errC_ok 1 n (by omega))
          go_enter Tryz.func60, Tryz.ntmps60
          go_wp2
          go_ret
          exact ⟨by rw [hf.out]; rfl, below_box _ _⟩
        · have hf := Lib.hid (errC_no 1 n (by omega))
          have n1 : 255 < n := by omega
          go_enter Tryz.func60, Tryz.ntmps60
          go_wp2
          go_ret
          exact ⟨by rw [hf.out]; rfl, below_box _ _⟩
      · have hf := Lib.hid (errC_no 1 n (by omega))
        have n1 : n < 0 := by omega
        go_enter Tryz.func60, Tryz.ntmps60
        go_wp2
        go_ret
        exact ⟨by rw [hf.out]; rfl, below_box _ _⟩
    · have d1 : (k == 1) = false := by simp [k1]
      by_cases k2 : k = 2
      · subst k2
        by_cases n0 : 0 ≤ n
        · by_cases n1 : n ≤ 16777215
          · have hf := Lib.hid (errC_ok 2 n (by omega))
            have e1 : decide (n ≤ 16777215) = true := decide_eq_true n1
            go_enter Tryz.func60, Tryz.ntmps60
            go_wp2
            go_ret
            exact ⟨by rw [hf.out]; rfl, below_box _ _⟩
          · have hf := Lib.hid (errC_no 2 n (by omega))
            have e1 : decide (n ≤ 16777215) = false := decide_eq_false n1
            clear n1
            go_enter Tryz.func60, Tryz.ntmps60
            go_wp2
            go_ret
            exact ⟨by rw [hf.out]; rfl, below_box _ _⟩
        · have hf := Lib.hid (errC_no 2 n (by omega))
          have n1 : n < 0 := by omega
          go_enter Tryz.func60, Tryz.ntmps60
          go_wp2
          go_ret
          exact ⟨by rw [hf.out]; rfl, below_box _ _⟩
      · have d2 : (k == 2) = false := by simp [k2]
        have hf := Lib.hid (errC_no k n (by omega))
        go_enter Tryz.func60, Tryz.ntmps60
        go_wp2
        go_ret
        exact ⟨by rw [hf.out]; rfl, below_box _ _⟩

theorem far_w (x y : Int) (h1 : 0 ≤ x) (h2 : x ≤ 16777215) (h3 : 0 ≤ y) (h4 : y ≤ 16777215) : wrap64 (wrap64 (wrap64 ((x / 65536 - y / 65536) * (x / 65536 - y / 65536)) + wrap64 ((x / 256 % 256 - y / 256 % 256) * (x / 256 % 256 - y / 256 % 256))) + wrap64 ((x % 256 - y % 256) * (x % 256 - y % 256))) = dst y x := by
  rw [dst_w x y h1 h2 h3 h4, dst_comm]
/-- the array that the reference lays -/
theorem pal_mid' (m : Nat) (h : m < 216) : pal (m + 16) = lev (m / 36) * 65536 + lev (m / 6 % 6) * 256 + lev (m % 6) := by
  have := pal_mid (m + 16) (by omega) (by omega)
  rwa [Nat.add_sub_cancel] at this
theorem bas_at (n : Nat) (h : n < 16) (h' : n < (cI basT).length) : (cI basT)[n] = .int .i64 (pal n) := by
  have := cI_at basT n _ (pal_lo n h)
  exact (List.getElem?_eq_some_iff.1 this).2
theorem pal_hi' (n : Nat) (h1 : 232 ≤ n) : pal n = (8 + 10 * ((n : Int) - 232)) * 65793 := by
  rw [pal, if_neg (by omega), if_neg (by omega)]
set_option maxRecDepth 100000 in
set_option maxHeartbeats 4000000 in
theorem rindex_lo (n : Nat) (w : World) (h1 : n < 16) : Calls Tryz.prog 86 #[.int .i64 (n : Int)] w fun e w' => e = .returned (.int .i64 (pal n)) ∧ Below w.heap.size w w' := by
  go_enter Tryz.func86, Tryz.ntmps86
  go_wp2
  go_ret
  exact ⟨congrArg Ending.returned (bas_at n h1 (by rw [cI_len]; exact h1)), below_box _ _⟩
set_option maxRecDepth 100000 in
set_option maxHeartbeats 4000000 in
theorem rindex_hi (n : Nat) (w : World) (h1 : 232 ≤ n) (hn : n < 256) : Calls Tryz.prog 86 #[.int .i64 (n : Int)] w fun e w' => e = .returned (.int .i64 (pal n)) ∧ Below w.heap.size w w' := by
  have hf := Lib.hid (pal_hi' n h1)
  go_enter Tryz.func86, Tryz.ntmps86
  go_wp2
  go_ret
  exact ⟨by rw [hf.out]; rfl, below_box _ _⟩
theorem cell_row (w : World) (l : List Int) (t : TypeId) (B i : Nat) (z : Int) (hB : B = w.heap.size) (hz : l[i]? = some z) : (w.alloc (.cells (cI l).toArray t)).cell? ⟨B, i, none⟩ = some (.int .i64 z) := by
  subst hB
  rw [cell_of_row _ _ _ (cI l).toArray t (0, 0) (heap_alloc_new w _)]
  simpa using cI_at l i z hz
set_option maxRecDepth 100000 in
set_option maxHeartbeats 4000000 in
theorem rindex_mid (m : Nat) (w : World) (h2 : m < 216) : Calls Tryz.prog 86 #[.int .i64 ((m + 16 : Nat) : Int)] w fun e w' => e = .returned (.int .i64 (pal (m + 16))) ∧ Below w.heap.size w w' := by
  have hp := pal_mid' m h2
  obtain ⟨i, hi⟩ : ∃ i, m / 36 = i := ⟨_, rfl⟩
  obtain ⟨j, hj⟩ : ∃ j, m / 6 = j := ⟨_, rfl⟩
  obtain ⟨l, hl⟩ : ∃ l, j % 6 = l := ⟨_, rfl⟩
  obtain ⟨o, ho⟩ : ∃ o, m % 6 = o := ⟨_, rfl⟩
  rw [hi, hj, hl, ho] at hp
  have q1 : IntKind.i64.wrap ((m : Int) / 36) = (i : Int) := by rw [IntWalk.i64_in _ (by omega)]; omega
  have q2 : IntKind.i64.wrap ((m : Int) / 6) = (j : Int) := by rw [IntWalk.i64_in _ (by omega)]; omega
  have q3 : (j : Int) % 6 = (l : Int) := by omega
  have q4 : (m : Int) % 6 = (o : Int) := by omega
  have r5 : (i : Int) < 6 := by omega
  have r6 : (l : Int) < 6 := by omega
  have r7 : (o : Int) < 6 := by omega
  have r8 : (j : Int) < 36 := by omega
  obtain ⟨a1, a2, a3⟩ := lev_bd i (by omega)
  obtain ⟨b1, b2, b3⟩ := lev_bd l (by omega)
  obtain ⟨c1, c2, c3⟩ := lev_bd o (by omega)
  clear hi hj hl ho
  have hf := Lib.hid hp; clear hp
  go_enter Tryz.func86, Tryz.ntmps86
  go_wp2_with fail
  have k1 := cell_row (w.alloc (.cells (cI basT).toArray 120)) levT 92 (w.heap.size + 1) i _ (by simp) a3
  have k2 := cell_row (w.alloc (.cells (cI basT).toArray 120)) levT 92 (w.heap.size + 1) l _ (by simp) b3
  have k3 := cell_row (w.alloc (.cells (cI basT).toArray 120)) levT 92 (w.heap.size + 1) o _ (by simp) c3
  have hlt : w.heap.size + 1 < ((w.alloc (.cells (cI basT).toArray 120)).alloc (.cells (cI levT).toArray 92)).heap.size := by simp
  have hB : Below w.heap.size w ((w.alloc (.cells (cI basT).toArray 120)).alloc (.cells (cI levT).toArray 92)) := ((Below.refl _ w).alloc (Nat.le_refl _) _).alloc (by simp) _
  change Code.wp _ _ _ _ ((w.alloc (.cells (cI basT).toArray 120)).alloc (.cells (cI levT).toArray 92))
  generalize (w.alloc (.cells (cI basT).toArray 120)).alloc (.cells (cI levT).toArray 92) = W at k1 k2 k3 hlt hB ⊢
  clear a3 b3 c3
  go_quiet (fail)
  go_wp2
  go_ret
  exact ⟨by rw [hf.out]; rfl, below_drewN' hB _⟩
theorem rindex_any (n : Nat) (w : World) (hn : n < 256) : Calls Tryz.prog 86 #[.int .i64 (n : Int)] w fun e w' => e = .returned (.int .i64 (pal n)) ∧ Below w.heap.size w w' := by
  by_cases h1 : n < 16
  · exact rindex_lo n w h1
  · by_cases h2 : 232 ≤ n
    · exact rindex_hi n w h2 hn
    · obtain ⟨m, rfl⟩ : ∃ m, n = m + 16 := ⟨n - 16, by omega⟩
      exact rindex_mid m w (by omega)
end Go.Proofs.YtoilcigmpeaedaaGreatDoor.Col

namespace Go.Proofs.YtoilcigmpeaedaaGreatDoor.Col
open Go.RowKit Utf

set_option maxRecDepth 100000 in
set_option maxHeartbeats 2000000 in
theorem rrgb_any (k n : Int) (w : World) : Calls Tryz.prog 61 #[colV k n] w fun e w' => e = .returned (rgbV k n) ∧ Below w.heap.size w w' := by
  cases ho : okC k n with
  | false =>
    have hf := Lib.hid (rgbV_none k n (by rw [rgbC, ho]; rfl))
    have he := Lib.hid (show errC k n = 130 by rw [errC, ho]; rfl)
    clear ho
    unfold colV
    go_enter Tryz.func61, Tryz.ntmps61
    go_wp2_with fail
    refine (rcheck_any k n _).mono ?_
    rw [he.out]
    rintro e w1 ⟨rfl, hb1⟩
    go_wp2
    go_ret2
    exact ⟨congrArg _ hf.out, (below_box _ _).trans (hb1.mono (by simp))⟩
  | true =>
    have he := Lib.hid (show errC k n = 0 by rw [errC, ho]; rfl)
    rcases ok_cases k n ho with ⟨rfl, rfl⟩ | ⟨rfl, h1, h2⟩ | ⟨rfl, h1, h2⟩
    · have hf := Lib.hid (rgbV_none 0 0 rfl)
      clear ho
      unfold colV
      go_enter Tryz.func61, Tryz.ntmps61
      go_wp2_with fail
      refine (rcheck_any 0 0 _).mono ?_
      rw [he.out]
      rintro e w1 ⟨rfl, hb1⟩
      have c0 := (hb1.cell (p := ⟨w.heap.size, 0, none⟩) (by simp))
      go_wp2
      go_ret2
      exact ⟨congrArg _ hf.out, (below_box _ _).trans (hb1.mono (by simp))⟩
    · obtain ⟨m, rfl⟩ := Int.eq_ofNat_of_zero_le h1
      have hf := Lib.hid (rgbV_some 1 (m : Int) (pal m) (by rw [rgbC, ho, if_pos rfl, if_neg (by omega), if_pos rfl, Int.toNat_natCast]))
      clear ho
      unfold colV
      go_enter Tryz.func61, Tryz.ntmps61
      go_wp2_with fail
      refine (rcheck_any 1 (m : Int) _).mono ?_
      rw [he.out]
      rintro e w1 ⟨rfl, hb1⟩
      have c0 := (hb1.cell (p := ⟨w.heap.size, 0, none⟩) (by simp))
      have c1 := (hb1.cell (p := ⟨w.heap.size, 1, none⟩) (by simp))
      go_wp2_with fail
      have hb2 : Below w.heap.size w w1 := (below_box _ _).trans (hb1.mono (by simp))
      refine (rindex_any m _ (by omega)).mono ?_
      rintro e w2 ⟨rfl, hb3⟩
      go_wp2
      go_ret2
      exact ⟨congrArg _ hf.out, hb2.trans (hb3.mono hb2.size)⟩
    · have hf := Lib.hid (rgbV_some 2 n n (by rw [rgbC, ho, if_pos rfl, if_neg (by omega), if_neg (by omega)]))
      clear ho
      unfold colV
      go_enter Tryz.func61, Tryz.ntmps61
      go_wp2_with fail
      refine (rcheck_any 2 n _).mono ?_
      rw [he.out]
      rintro e w1 ⟨rfl, hb1⟩
      have c0 := (hb1.cell (p := ⟨w.heap.size, 0, none⟩) (by simp))
      have c1 := (hb1.cell (p := ⟨w.heap.size, 1, none⟩) (by simp))
      go_wp2
      go_ret2
      exact ⟨congrArg _ hf.out, (below_box _ _).trans (hb1.mono (by simp))⟩

/-- what the reference's digit answers -/
def rdig (b : UInt8) : Int := match dig b with | some d => (d : Int) | none => -1
theorem rdig_some (b : UInt8) (d : Nat) (z : Int) (h : dig b = some d) (hz : z = d) : z = rdig b := by rw [rdig, h, hz]
theorem rdig_none (b : UInt8) (h : dig b = none) : -1 = rdig b := by rw [rdig, h]
set_option maxRecDepth 100000 in
set_option maxHeartbeats 2000000 in
theorem rdigit_any (b : UInt8) (w : World) : Calls Tryz.prog 70 #[.int .u8 (b.toNat : Int)] w fun e w' => e = .returned (.int .i64 (rdig b)) ∧ w = w' := by
  have hb : (b.toNat : Int) < 256 := by have := b.toNat_lt; omega
  by_cases h1 : 48 ≤ b.toNat ∧ b.toNat ≤ 57
  · have hf := Lib.hid (rdig_some b (b.toNat - 48) ((b.toNat : Int) - 48) (by rw [dig, if_pos h1]) (by omega))
    have g1 : (48 : Int) ≤ b.toNat := by omega
    have g2 : (b.toNat : Int) ≤ 57 := by omega
    clear h1
    go_enter Tryz.func70, Tryz.ntmps70
    go_wp2
    go_ret
    exact ⟨by rw [← hf.out]; rfl, rfl⟩
  · rcases (show (b.toNat : Int) < 48 ∨ ((48 : Int) ≤ b.toNat ∧ (57 : Int) < b.toNat) by omega) with g1 | ⟨g1, g2⟩
    · have hf := Lib.hid (rdig_none b (by rw [dig, if_neg h1, if_neg (by omega), if_neg (by omega)]))
      have g2 : (b.toNat : Int) < 97 := by omega
      have g3 : (b.toNat : Int) < 65 := by omega
      clear h1
      go_enter Tryz.func70, Tryz.ntmps70
      go_wp2
      go_ret
      exact ⟨by rw [← hf.out]; rfl, rfl⟩
    · by_cases h2 : 97 ≤ b.toNat ∧ b.toNat ≤ 102
      · have hf := Lib.hid (rdig_some b (b.toNat - 97 + 10) ((b.toNat : Int) - 97 + 10) (by rw [dig, if_neg h1, if_pos h2]) (by omega))
        have g3 : (97 : Int) ≤ b.toNat := by omega
        have g4 : (b.toNat : Int) ≤ 102 := by omega
        clear h1 h2
        go_enter Tryz.func70, Tryz.ntmps70
        go_wp2
        go_ret
        exact ⟨by rw [← hf.out]; rfl, rfl⟩
      · by_cases h3 : 65 ≤ b.toNat ∧ b.toNat ≤ 70
        · have hf := Lib.hid (rdig_some b (b.toNat - 65 + 10) ((b.toNat : Int) - 65 + 10) (by rw [dig, if_neg h1, if_neg h2, if_pos h3]) (by omega))
          have g3 : (b.toNat : Int) < 97 := by omega
          have g4 : (65 : Int) ≤ b.toNat := by omega
          have g5 : (b.toNat : Int) ≤ 70 := by omega
          clear h1 h2 h3
          go_enter Tryz.func70, Tryz.ntmps70
          go_wp2
          go_ret
          exact ⟨by rw [← hf.out]; rfl, rfl⟩
        · have hf := Lib.hid (rdig_none b (by rw [dig, if_neg h1, if_neg h2, if_neg h3]))
          rcases (show (b.toNat : Int) < 65 ∨ ((65 : Int) ≤ b.toNat ∧ (70 : Int) < b.toNat ∧ (b.toNat : Int) < 97) ∨ ((97 : Int) ≤ b.toNat ∧ (102 : Int) < b.toNat) by omega) with g3 | ⟨g3, g4, g5⟩ | ⟨g3, g4⟩
          · clear h1 h2 h3
            have g4 : (b.toNat : Int) < 97 := by omega
            go_enter Tryz.func70, Tryz.ntmps70
            go_wp2
            go_ret
            exact ⟨by rw [← hf.out]; rfl, rfl⟩
          · clear h1 h2 h3
            go_enter Tryz.func70, Tryz.ntmps70
            go_wp2
            go_ret
            exact ⟨by rw [← hf.out]; rfl, rfl⟩
          · clear h1 h2 h3
            have g5 : (65 : Int) ≤ b.toNat := by omega
            have g6 : (70 : Int) < b.toNat := by omega
            go_enter Tryz.func70, Tryz.ntmps70
            go_wp2
            go_ret
            exact ⟨by rw [← hf.out]; rfl, rfl⟩
end Go.Proofs.YtoilcigmpeaedaaGreatDoor.Col

namespace Go.Proofs.YtoilcigmpeaedaaGreatDoor.Col
open Go.RowKit Utf

def shapeL : List UInt8 := [114, 103, 98, 58, 48, 48, 47, 48, 48, 47, 48, 48]
def shapeS : ByteArray := ⟨#[114, 103, 98, 58, 48, 48, 47, 48, 48, 47, 48, 48]⟩
theorem shape_run (i : Nat) (f : UInt8) (hf : shapeL[i]? = some f) (w : World) : (Instr.index 9 (.string ⟨#[114, 103, 98, 58, 48, 48, 47, 48, 48, 47, 48, 48]⟩) (.int .i64 (i : Int))).run Tryz.prog w = .ok (.int .u8 (f.toNat : Int)) w :=
  idx_run 9 shapeS i f hf Tryz.underlying9 w
theorem shape_at (i : Nat) (f : UInt8) (hf : formL[i]? = some f) : shapeL[i]? = some (if f = 104 then 48 else f) ∧ f ≠ 48 := by
  have : ∀ i : Fin 12, ∃ f, formL[i.val]? = some f ∧ shapeL[i.val]? = some (if f = 104 then 48 else f) ∧ f ≠ 48 := fun i => ⟨(formL[i.val]?).getD 0, by revert i; decide +kernel⟩
  have hi : i < 12 := (List.getElem?_eq_some_iff.1 hf).1
  obtain ⟨g, h1, h2⟩ := this ⟨i, hi⟩
  rw [hf] at h1
  cases h1
  exact h2

set_option maxRecDepth 100000 in
set_option maxHeartbeats 4000000 in
theorem rparse_any (s : ByteArray) (w : World) : Calls Tryz.prog 38 #[.string s] w fun e w' => e = .returned (prsV s.data.toList) ∧ Below w.heap.size w w' := by
  have hlen : s.data.toList.length = s.size := by simp
  by_cases h12 : s.size = 12
  · have hp := Lib.hid (show parseL s.data.toList = prs (formL.drop 0) (s.data.toList.drop 0) 0 by rw [parseL, if_pos (by omega)]; rfl)
    have hsz : (s.size : Int) = 12 := by omega
    have HI := Lib.hid (And.intro (show Bx (w.alloc (.cells #[.int .i64 0, .int .i64 0] 23)) w.heap.size from heap_alloc_new w _) (below_box w (.cells #[.int .i64 0, .int .i64 0] 23)))
    go_enter Tryz.func38, Tryz.ntmps38
    go_wp2_with fail
    go_loopw [4, 5] (fun a i wr => ∃ k n : Nat, k ≤ 12 ∧ n < 16 ^ k ∧ i = .int .i64 (k : Int) ∧ a = .int .i64 (n : Int) ∧ Hid (parseL s.data.toList = prs (formL.drop k) (s.data.toList.drop k) n) ∧ Hid (Bx wr w.heap.size ∧ Below w.heap.size w wr)) (fun _ i _ => 12 - (intOf i).toNat)
    case atStart => exact ⟨0, 0, by omega, by omega, rfl, rfl, hp, HI⟩
    case round =>
      clear HI hp
      obtain ⟨k, n, hk, hn, rfl, rfl, hp, hid⟩ := hrel
      have hbx := hid.out.1
      have hlt := (Array.getElem?_eq_some_iff.1 hbx).1
      have c0 : wr.cell? ⟨w.heap.size, 0, none⟩ = some (.int .i64 0) := by simp [World.cell?, show wr.heap[w.heap.size]? = _ from hbx]
      have c1 : wr.cell? ⟨w.heap.size, 1, none⟩ = some (.int .i64 0) := by simp [World.cell?, show wr.heap[w.heap.size]? = _ from hbx]
      have f0 : wr.frozen? ⟨w.heap.size, 0, none⟩ = false := by simp [World.frozen?, show wr.heap[w.heap.size]? = _ from hbx]
      have f1 : wr.frozen? ⟨w.heap.size, 1, none⟩ = false := by simp [World.frozen?, show wr.heap[w.heap.size]? = _ from hbx]
      clear hbx
      have hn2 : n < 281474976710656 := Nat.lt_of_lt_of_le hn (Nat.pow_le_pow_right (n := 16) (by omega) hk)
      by_cases hk2 : k < 12
      · obtain ⟨f, hf⟩ : ∃ f, formL[k]? = some f := ⟨formL[k]'hk2, List.getElem?_eq_getElem hk2⟩
        obtain ⟨c, hc⟩ : ∃ c, s.data.toList[k]? = some c := ⟨s.data.toList[k]'(by omega), List.getElem?_eq_getElem (by omega)⟩
        obtain ⟨hsf, hf48⟩ := shape_at k f hf
        have x2 := fun w => idx_run 9 s k c hc Tryz.underlying9 w
        by_cases hh : f = 104
        · subst hh
          have hs1 := prs_h k s.data.toList c n hf hc
          rw [if_pos rfl] at hsf
          have x1' : ∀ w, (Instr.index 9 (.string ⟨#[114, 103, 98, 58, 48, 48, 47, 48, 48, 47, 48, 48]⟩) (.int .i64 (k : Int))).run Tryz.prog w = .ok (.int .u8 48) w := fun w => shape_run k 48 hsf w
          clear hsf
          cases hd : dig c with
          | none =>
            rw [hd] at hs1
            have hp2 := Lib.hid (prsV_none _ (hp.out.trans hs1))
            have hv := rdig_none c hd
            clear hs1 hp hf hc hd
            go_wp2_with fail
            refine (rdigit_any c _).mono ?_
            rw [← hv]
            rintro e w' ⟨rfl, rfl⟩
            clear hv
            go_wp2
            refine bodyPost_ret (ret_cell rfl _ _ ⟨w.heap.size, 0, none⟩ _ rfl (load_col _ _ (.int .i64 0) (.int .i64 0) (by go_simp) (by go_simp))) rfl ?_
            exact ⟨congrArg _ hp2.out, (hid.out.2.setCell (p := ⟨w.heap.size, 0, none⟩) (Nat.le_refl _) _).setCell (p := ⟨w.heap.size, 1, none⟩) (Nat.le_refl _) _⟩
          | some d =>
            have hd16 := dig_bd c d hd
            rw [hd] at hs1
            have hp2 := Lib.hid (hp.out.trans hs1)
            have hv := rdig_some c d d hd rfl
            have hn3 : n * 16 + d < 16 ^ (k + 1) := by rw [Nat.pow_succ]; omega
            clear hs1 hp hf hc hd
            go_wp2_with fail
            refine (rdigit_any c _).mono ?_
            rw [← hv]
            rintro e w' ⟨rfl, rfl⟩
            clear hv
            go_wp2
            go_roundw
            case rel => exact ⟨k + 1, n * 16 + d, by omega, hn3, by go_num, by go_num, hp2, hid⟩
            case measure => simp [intOf]; omega
        · have hs1 := prs_f k s.data.toList f c n hf hh hc
          rw [if_neg hh] at hsf
          have x1 := fun w => shape_run k f hsf w
          have n1' : ((f.toNat : Int) != 48) = true := u8_ne f 48 hf48
          clear hsf
          by_cases hcf : c = f
          · subst hcf
            rw [if_pos rfl] at hs1
            have hp2 := Lib.hid (hp.out.trans hs1)
            clear hs1 hp hf hc hh
            go_wp2_with fail
            go_quiet (fail)
            go_wp2
            go_roundw
            case rel => exact ⟨k + 1, n, by omega, Nat.lt_of_lt_of_le hn (Nat.pow_le_pow_right (by omega) (by omega)), by go_num, rfl, hp2, ⟨hid.out.1, below_drewN' hid.out.2 _⟩⟩
            case measure => simp [intOf]; omega
          · rw [if_neg hcf] at hs1
            have hp2 := Lib.hid (prsV_none _ (hp.out.trans hs1))
            have n2 := u8_ne c f hcf
            clear hs1 hp hf hc hh hcf
            go_wp2_with fail
            go_quiet (fail)
            go_wp2
            refine bodyPost_ret (ret_cell rfl _ _ ⟨w.heap.size, 0, none⟩ _ rfl (load_col _ _ (.int .i64 0) (.int .i64 0) (by go_simp) (by go_simp))) rfl ?_
            exact ⟨congrArg _ hp2.out, ((below_drewN' hid.out.2 _).setCell (p := ⟨w.heap.size, 0, none⟩) (Nat.le_refl _) _).setCell (p := ⟨w.heap.size, 1, none⟩) (Nat.le_refl _) _⟩
      · obtain rfl : k = 12 := by omega
        have hp2 := Lib.hid (prsV_some _ n (by rw [hp.out, List.drop_of_length_le (by decide)]; cases (s.data.toList.drop 12) <;> rfl))
        clear hp
        go_wp2
        refine bodyPost_ret (ret_cell rfl _ _ ⟨w.heap.size, 0, none⟩ _ rfl (load_col _ _ (.int .i64 2) (.int .i64 (n : Int)) (by go_simp) (by go_simp))) rfl ?_
        exact ⟨congrArg _ hp2.out, (hid.out.2.setCell (p := ⟨w.heap.size, 0, none⟩) (Nat.le_refl _) _).setCell (p := ⟨w.heap.size, 1, none⟩) (Nat.le_refl _) _⟩
  · have hf := Lib.hid (prsV_none s.data.toList (by rw [parseL, if_neg (by omega)]))
    have hne : ((s.size : Int) != 12) = true := by
      rw [bne_iff_ne]; omega
    go_enter Tryz.func38, Tryz.ntmps38
    go_wp2
    refine bodyPost_ret (ret_cell rfl _ _ ⟨w.heap.size, 0, none⟩ _ rfl (load_col _ _ (.int .i64 0) (.int .i64 0) (by go_simp) (by go_simp))) rfl ?_
    exact ⟨congrArg _ hf.out, below_box _ _⟩
end Go.Proofs.YtoilcigmpeaedaaGreatDoor.Col

namespace Go.Proofs.YtoilcigmpeaedaaGreatDoor.Col
open Go.RowKit Utf

/-- the first digits of a number -/
def hx (x : Nat) : Nat → ByteArray
  | 0 => ⟨#[]⟩
  | 1 => ⟨#[hexD (x / 1048576 % 16)]⟩
  | 2 => ⟨#[hexD (x / 1048576 % 16), hexD (x / 65536 % 16)]⟩
  | 3 => ⟨#[hexD (x / 1048576 % 16), hexD (x / 65536 % 16), hexD (x / 4096 % 16)]⟩
  | 4 => ⟨#[hexD (x / 1048576 % 16), hexD (x / 65536 % 16), hexD (x / 4096 % 16), hexD (x / 256 % 16)]⟩
  | 5 => ⟨#[hexD (x / 1048576 % 16), hexD (x / 65536 % 16), hexD (x / 4096 % 16), hexD (x / 256 % 16), hexD (x / 16 % 16)]⟩
  | _ => ⟨#[hexD (x / 1048576 % 16), hexD (x / 65536 % 16), hexD (x / 4096 % 16), hexD (x / 256 % 16), hexD (x / 16 % 16), hexD (x % 16)]⟩
theorem ext_hex (d : Nat) (h : d < 16) : hexS.extract d (d + 1) = ⟨#[hexD d]⟩ := by
  have : ∀ d : Fin 16, (hexS.extract d.val (d.val + 1)).data = #[hexD d.val] := by decide +kernel
  have := this ⟨d, h⟩
  cases hh : hexS.extract d (d + 1) with
  | mk a => rw [hh] at this; exact congrArg ByteArray.mk this
theorem hx_0 (x d : Nat) (hd : x / 1048576 % 16 = d) (h : d < 16) : hx x 0 ++ hexS.extract d (d + 1) = hx x 1 := by
  rw [ext_hex d h, ← hd]; rfl
theorem hx_1 (x d : Nat) (hd : x / 65536 % 16 = d) (h : d < 16) : hx x 1 ++ hexS.extract d (d + 1) = hx x 2 := by
  rw [ext_hex d h, ← hd]; rfl
theorem hx_2 (x d : Nat) (hd : x / 4096 % 16 = d) (h : d < 16) : hx x 2 ++ hexS.extract d (d + 1) = hx x 3 := by
  rw [ext_hex d h, ← hd]; rfl
theorem hx_3 (x d : Nat) (hd : x / 256 % 16 = d) (h : d < 16) : hx x 3 ++ hexS.extract d (d + 1) = hx x 4 := by
  rw [ext_hex d h, ← hd]; rfl
theorem hx_4 (x d : Nat) (hd : x / 16 % 16 = d) (h : d < 16) : hx x 4 ++ hexS.extract d (d + 1) = hx x 5 := by
  rw [ext_hex d h, ← hd]; rfl
theorem hx_5 (x d : Nat) (hd : x % 16 = d) (h : d < 16) : hx x 5 ++ hexS.extract d (d + 1) = hx x 6 := by
  rw [ext_hex d h, ← hd]; rfl
theorem hx_end (x : Nat) : (⟨#[114, 103, 98, 58]⟩ : ByteArray) ++ (hx x 6).extract 0 2 ++ ⟨#[47]⟩ ++ (hx x 6).extract 2 4 ++ ⟨#[47]⟩ ++ (hx x 6).extract 4 6 = ⟨(txt x).toArray⟩ := rfl

set_option maxRecDepth 100000 in
set_option maxHeartbeats 4000000 in
theorem rtext_some (k n : Int) (x : Nat) (w : World) (he : errC k n = 0) (hr : rgbC k n = some (x : Int)) (hxb : x ≤ 16777215) : Calls Tryz.prog 30 #[colV k n] w fun e w' => e = .returned (.tuple #[.string ⟨(txt x).toArray⟩, .int .i64 0]) ∧ Below w.heap.size w w' := by
  have HE := Lib.hid he; clear he
  have HR := Lib.hid (rgbV_is k n x hr); clear hr
  unfold colV
  go_enter Tryz.func30, Tryz.ntmps30
  go_wp2_with fail
  refine (rcheck_any k n _).mono ?_
  rw [HE.out]
  rintro e w1 ⟨rfl, hb1⟩
  have c0 := (hb1.cell (p := ⟨w.heap.size, 0, none⟩) (by simp))
  have c1 := (hb1.cell (p := ⟨w.heap.size, 1, none⟩) (by simp))
  have hb2 : Below w.heap.size w w1 := (below_box _ _).trans (hb1.mono (by simp))
  go_wp2_with fail
  refine (rrgb_any k n _).mono ?_
  rw [HR.out]
  rintro e w2 ⟨rfl, hb3⟩
  have hb4 := hb2.trans (hb3.mono hb2.size)
  clear c0 c1 hb1 hb2 hb3
  go_wp2_with fail
  go_loop [6, 7] (fun s i => ∃ k : Nat, k ≤ 6 ∧ i = .int .i64 (k : Int) ∧ s = .string (hx x k)) (fun _ i => 6 - (intOf i).toNat)
  case atStart => exact ⟨0, by omega, rfl, rfl⟩
  case round =>
    obtain ⟨k, hk, rfl, rfl⟩ := hrel
    rcases (show k = 0 ∨ k = 1 ∨ k = 2 ∨ k = 3 ∨ k = 4 ∨ k = 5 ∨ k = 6 by omega) with rfl | rfl | rfl | rfl | rfl | rfl | rfl
    · rw [show ((0 : Nat) : Int) = 0 from rfl]
      have x0 : ∀ W, (Instr.index 92 (.agg #[.int .i64 1048576, .int .i64 65536, .int .i64 4096, .int .i64 256, .int .i64 16, .int .i64 1]) (.int .i64 0)).run Tryz.prog W = .ok (.int .i64 1048576) W := fun _ => by kernel_rfl
      obtain ⟨d, hd⟩ : ∃ d, x / 1048576 % 16 = d := ⟨_, rfl⟩
      have hd1 : (x : Int) / 1048576 % 16 = (d : Int) := by omega
      have hd2 : d < 16 := by omega
      have hs := Lib.hid (hx_0 x d hd hd2)
      have hz : (hx x 0).size = 0 := rfl
      have hm : min (d + 1) 16 - d = 1 := by omega
      generalize hx x 0 = S at hs hz ⊢
      clear hd
      go_wp2
      go_round
      case rel => exact ⟨1, by omega, rfl, congrArg Value.string hs.out⟩
      case measure => simp [intOf]
    · rw [show ((1 : Nat) : Int) = 1 from rfl]
      have x0 : ∀ W, (Instr.index 92 (.agg #[.int .i64 1048576, .int .i64 65536, .int .i64 4096, .int .i64 256, .int .i64 16, .int .i64 1]) (.int .i64 1)).run Tryz.prog W = .ok (.int .i64 65536) W := fun _ => by kernel_rfl
      obtain ⟨d, hd⟩ : ∃ d, x / 65536 % 16 = d := ⟨_, rfl⟩
      have hd1 : (x : Int) / 65536 % 16 = (d : Int) := by omega
      have hd2 : d < 16 := by omega
      have hs := Lib.hid (hx_1 x d hd hd2)
      have hz : (hx x 1).size = 1 := rfl
      have hm : min (d + 1) 16 - d = 1 := by omega
      generalize hx x 1 = S at hs hz ⊢
      clear hd
      go_wp2
      go_round
      case rel => exact ⟨2, by omega, rfl, congrArg Value.string hs.out⟩
      case measure => simp [intOf]
    · rw [show ((2 : Nat) : Int) = 2 from rfl]
      have x0 : ∀ W, (Instr.index 92 (.agg #[.int .i64 1048576, .int .i64 65536, .int .i64 4096, .int .i64 256, .int .i64 16, .int .i64 1]) (.int .i64 2)).run Tryz.prog W = .ok (.int .i64 4096) W := fun _ => by kernel_rfl
      obtain ⟨d, hd⟩ : ∃ d, x / 4096 % 16 = d := ⟨_, rfl⟩
      have hd1 : (x : Int) / 4096 % 16 = (d : Int) := by omega
      have hd2 : d < 16 := by omega
      have hs := Lib.hid (hx_2 x d hd hd2)
      have hz : (hx x 2).size = 2 := rfl
      have hm : min (d + 1) 16 - d = 1 := by omega
      generalize hx x 2 = S at hs hz ⊢
      clear hd
      go_wp2
      go_round
      case rel => exact ⟨3, by omega, rfl, congrArg Value.string hs.out⟩
      case measure => simp [intOf]
    · rw [show ((3 : Nat) : Int) = 3 from rfl]
      have x0 : ∀ W, (Instr.index 92 (.agg #[.int .i64 1048576, .int .i64 65536, .int .i64 4096, .int .i64 256, .int .i64 16, .int .i64 1]) (.int .i64 3)).run Tryz.prog W = .ok (.int .i64 256) W := fun _ => by kernel_rfl
      obtain ⟨d, hd⟩ : ∃ d, x / 256 % 16 = d := ⟨_, rfl⟩
      have hd1 : (x : Int) / 256 % 16 = (d : Int) := by omega
      have hd2 : d < 16 := by omega
      have hs := Lib.hid (hx_3 x d hd hd2)
      have hz : (hx x 3).size = 3 := rfl
      have hm : min (d + 1) 16 - d = 1 := by omega
      generalize hx x 3 = S at hs hz ⊢
      clear hd
      go_wp2
      go_round
      case rel => exact ⟨4, by omega, rfl, congrArg Value.string hs.out⟩
      case measure => simp [intOf]
    · rw [show ((4 : Nat) : Int) = 4 from rfl]
      have x0 : ∀ W, (Instr.index 92 (.agg #[.int .i64 1048576, .int .i64 65536, .int .i64 4096, .int .i64 256, .int .i64 16, .int .i64 1]) (.int .i64 4)).run Tryz.prog W = .ok (.int .i64 16) W := fun _ => by kernel_rfl
      obtain ⟨d, hd⟩ : ∃ d, x / 16 % 16 = d := ⟨_, rfl⟩
      have hd1 : (x : Int) / 16 % 16 = (d : Int) := by omega
      have hd2 : d < 16 := by omega
      have hs := Lib.hid (hx_4 x d hd hd2)
      have hz : (hx x 4).size = 4 := rfl
      have hm : min (d + 1) 16 - d = 1 := by omega
      generalize hx x 4 = S at hs hz ⊢
      clear hd
      go_wp2
      go_round
      case rel => exact ⟨5, by omega, rfl, congrArg Value.string hs.out⟩
      case measure => simp [intOf]
    · rw [show ((5 : Nat) : Int) = 5 from rfl]
      have x0 : ∀ W, (Instr.index 92 (.agg #[.int .i64 1048576, .int .i64 65536, .int .i64 4096, .int .i64 256, .int .i64 16, .int .i64 1]) (.int .i64 5)).run Tryz.prog W = .ok (.int .i64 1) W := fun _ => by kernel_rfl
      obtain ⟨d, hd⟩ : ∃ d, x % 16 = d := ⟨_, rfl⟩
      have hd1 : (x : Int) % 16 = (d : Int) := by omega
      have hd2 : d < 16 := by omega
      have hs := Lib.hid (hx_5 x d hd hd2)
      have hz : (hx x 5).size = 5 := rfl
      have hm : min (d + 1) 16 - d = 1 := by omega
      generalize hx x 5 = S at hs hz ⊢
      clear hd
      go_wp2
      go_round
      case rel => exact ⟨6, by omega, rfl, congrArg Value.string hs.out⟩
      case measure => simp [intOf]
    · rw [show ((6 : Nat) : Int) = 6 from rfl]
      have hz : (hx x 6).size = 6 := rfl
      have he := Lib.hid (hx_end x)
      generalize hx x 6 = S at hz he ⊢
      go_wp2_with fail
      go_quiet (fail)
      go_wp2
      go_ret2
      exact ⟨by rw [← he.out]; rfl, below_drewN' hb4 _⟩

set_option maxRecDepth 100000 in
set_option maxHeartbeats 4000000 in
theorem rtext_any (k n : Int) (w : World) : Calls Tryz.prog 30 #[colV k n] w fun e w' => e = .returned (txtV k n) ∧ Below w.heap.size w w' := by
  cases ho : okC k n with
  | false =>
    have hf := Lib.hid (txtV_bad k n ho)
    have he := Lib.hid (show errC k n = 130 by rw [errC, ho]; rfl)
    clear ho
    unfold colV
    go_enter Tryz.func30, Tryz.ntmps30
    go_wp2_with fail
    refine (rcheck_any k n _).mono ?_
    rw [he.out]
    rintro e w1 ⟨rfl, hb1⟩
    go_wp2
    go_ret2
    exact ⟨congrArg _ hf.out, (below_box _ _).trans (hb1.mono (by simp))⟩
  | true =>
    have he := Lib.hid (show errC k n = 0 by rw [errC, ho]; rfl)
    by_cases hk : k = 0
    · subst hk
      obtain rfl : n = 0 := by have := ok_cases 0 n ho; omega
      have hf := Lib.hid (txtV_none)
      have hr := Lib.hid (rgbV_none 0 0 rfl)
      clear ho
      unfold colV
      go_enter Tryz.func30, Tryz.ntmps30
      go_wp2_with fail
      refine (rcheck_any 0 0 _).mono ?_
      rw [he.out]
      rintro e w1 ⟨rfl, hb1⟩
      have c0 := (hb1.cell (p := ⟨w.heap.size, 0, none⟩) (by simp))
      have c1 := (hb1.cell (p := ⟨w.heap.size, 1, none⟩) (by simp))
      have hb2 : Below w.heap.size w w1 := (below_box _ _).trans (hb1.mono (by simp))
      go_wp2_with fail
      refine (rrgb_any 0 0 _).mono ?_
      rw [← hr.out]
      rintro e w2 ⟨rfl, hb3⟩
      go_wp2
      go_ret2
      exact ⟨congrArg _ hf.out, hb2.trans (hb3.mono hb2.size)⟩
    · obtain ⟨x, hx⟩ : ∃ x : Nat, rgbC k n = some (x : Int) := by
        rcases ok_cases k n ho with ⟨rfl, _⟩ | ⟨rfl, h1, h2⟩ | ⟨rfl, h1, h2⟩
        · omega
        · refine ⟨(pal n.toNat).toNat, ?_⟩
          rw [rgbC, ho, if_pos rfl, if_neg (by omega), if_pos rfl, Int.toNat_of_nonneg (pal_bd _ (by omega)).1]
        · refine ⟨n.toNat, ?_⟩
          rw [rgbC, ho, if_pos rfl, if_neg (by omega), if_neg (by omega), Int.toNat_of_nonneg h1]
      have hxb := (rgbC_bd k n x hx).2
      rw [← txtV_some k n x ho hk hx]
      exact rtext_some k n x w he.out hx (by omega)
end Go.Proofs.YtoilcigmpeaedaaGreatDoor.Col
