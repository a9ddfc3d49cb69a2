/-
  The walk of the law ColorParses: it returns true, whatever its arguments; nothing that lay before the call has turned.
-/
import Derived.Test.YtddgigiajenmkaaDoorColI
import Derived.Test.YtddgigiajenmkaaDoorColJ
import Derived.Deep.RegionHeld3
import Derived.Lib.SmallJoins
namespace Go.Proofs.YtddgigiajenmkaaDoor.Col
open Go.RowKit Utf

/-- a box with a color of known cells -/
def Bp (w : World) (B : Nat) (a b : Int) : Prop := B < w.heap.size ∧ w.cell? ⟨B, 0, none⟩ = some (.int .i64 a) ∧ w.cell? ⟨B, 1, none⟩ = some (.int .i64 b)
theorem Bp.keep {w w' : World} {B : Nat} {a b : Int} (h : Bp w B a b) (hb : Below w.heap.size w w') : Bp w' B a b :=
  ⟨Nat.lt_of_lt_of_le h.1 hb.size, (hb.cell (p := ⟨B, 0, none⟩) h.1).trans h.2.1, (hb.cell (p := ⟨B, 1, none⟩) h.1).trans h.2.2⟩
theorem bp_new (w : World) (a b : Int) (t : TypeId) : Bp (w.alloc (.cells #[.int .i64 a, .int .i64 b] t)) w.heap.size a b := by
  have hbx : (w.alloc (.cells #[.int .i64 a, .int .i64 b] t)).heap[w.heap.size]? = some (.cells #[.int .i64 a, .int .i64 b] t (0, 0)) := heap_alloc_new w _
  exact ⟨by simp, (Joins.cell_of_block hbx 0).trans rfl, (Joins.cell_of_block hbx 1).trans rfl⟩
theorem min_40 (n : Nat) (h : (n : Int) ≤ 40) : (if (40 : Int) < (n : Int) then (40 : Int) else (n : Int)) = (n : Int) := by rw [if_neg (by omega)]
attribute [local go_sem] min_40
theorem parse_t (s : ByteArray) (a b c : Int) (h : prsV s.data.toList = .tuple #[.agg #[.int .i64 a, .int .i64 b], .int .i64 c]) (w : World) : Calls Tryd.prog 20 #[.string s] w fun e w' => e = .returned (.tuple #[.agg #[.int .i64 a, .int .i64 b], .int .i64 c]) ∧ Below w.heap.size w w' := by
  rw [← h]; exact parse_any s w
theorem rparse_t (s : ByteArray) (a b c : Int) (h : prsV s.data.toList = .tuple #[.agg #[.int .i64 a, .int .i64 b], .int .i64 c]) (w : World) : Calls Tryd.prog 21 #[.string s] w fun e w' => e = .returned (.tuple #[.agg #[.int .i64 a, .int .i64 b], .int .i64 c]) ∧ Below w.heap.size w w' := by
  rw [← h]; exact rparse_any s w
theorem prsV_form (s : List UInt8) : ∃ a b c : Int, prsV s = .tuple #[.agg #[.int .i64 a, .int .i64 b], .int .i64 c] := by
  cases h : parseL s with
  | none => exact ⟨0, 0, 6, (prsV_none s h).symm⟩
  | some n => exact ⟨2, n, 0, (prsV_some s n h).symm⟩
theorem mod24 (n : Int) : ∃ x : Nat, x ≤ 16777215 ∧ n % 16777216 = (x : Int) := ⟨(n % 16777216).toNat, by omega, by omega⟩
theorem rgbC_x (x : Nat) (h : x ≤ 16777215) : rgbC 2 (x : Int) = some (x : Int) := by
  have ho : okC 2 (x : Int) = true := by simp [okC]; omega
  rw [rgbC, ho, if_pos rfl, if_neg (by omega), if_neg (by omega)]
set_option maxRecDepth 100000 in
set_option maxHeartbeats 8000000 in
theorem parses_short (s : ByteArray) (n : Int) (at_ sign : UInt8) (w : World) (h : Tc w) (n0 : 0 ≤ n) (n1 : n ≤ 4294967295) (hs : s.size ≤ 9223372036854775807) (hs40 : s.size ≤ 40) : Calls Tryd.prog 5 #[.string s, .int .u32 n, .int .u8 (at_.toNat : Int), .int .u8 (sign.toNat : Int)] w fun e w' => e = .returned (.bool true) ∧ Below w.heap.size w w' := by
  have H := Lib.hid h; clear h
  obtain ⟨x, hx, hnx⟩ := mod24 n
  have ha : at_.toNat < 256 := at_.toNat_lt
  go_enter Tryd.func5, Tryd.ntmps5
  go_wp2_with fail
  rw [hnx]
  refine (rtext_some 2 (x : Int) x _ (errC_ok 2 x (by omega)) (rgbC_x x hx) hx).mono ?_
  rintro e w1 ⟨rfl, hb1⟩
  have hT : (⟨(txt x).toArray⟩ : ByteArray).size = 12 := rfl
  generalize (⟨(txt x).toArray⟩ : ByteArray) = T at hT ⊢
  obtain ⟨c, w2, hcv, hc, hrow, hb2, hsz2⟩ := run_row (P := Tryd.prog) w1 9 41 T Tryd.underlying9 Tryd.underlying41 Tryd.underlying5
  rw [hT] at hcv hc
  have hTl : T.data.toList.length = 12 := by rw [← hT]; simp
  have hb3 := hb1.trans (hb2.mono hb1.size)
  have hG := hb1.size
  generalize w1.heap.size = G at hcv hrow hG
  obtain ⟨m, hm⟩ : ∃ m : Nat, at_.toNat % 12 = m := ⟨_, rfl⟩
  have hm1 : (at_.toNat : Int) % 12 = (m : Int) := by omega
  have hm2 : m < 12 := by omega
  obtain ⟨p, hp⟩ : ∃ p : Nat, at_.toNat % 13 = p := ⟨_, rfl⟩
  have hp1 : (at_.toNat : Int) % 13 = (p : Int) := by omega
  have hp2 : p < 13 := by omega
  clear hm hp
  have hfz := hrow.frozen m (by omega)
  obtain ⟨b0, hb0⟩ : ∃ b, T.data.toList[m]? = some b := ⟨T.data.toList[m]'(by omega), List.getElem?_eq_getElem (by omega)⟩
  have hcl := hrow.cell m b0 hb0
  have hlt := hrow.lt
  have hrow2 := hrow.set m sign
  have HB := Lib.hid (hb3.setCell (p := ⟨G, m, none⟩) hG (.int .u8 (sign.toNat : Int)))
  have hTz : (T.size : Int) = 12 := by omega
  have Hrow := Lib.hid hrow2
  clear hrow hrow2 hb0
  go_wp2_with fail
  have hW := HB.out
  have hrW := Hrow.out
  have hMl : (T.data.toList.set m sign).length = 12 := by rw [List.length_set]; exact hTl
  generalize w2.setCell ⟨G, m, none⟩ (.int .u8 (sign.toNat : Int)) = W at hW hrW ⊢
  generalize T.data.toList.set m sign = M at hrW hMl
  have hcvd : ∀ W', Row W' G M → (convert 41 9 (.slice (some ⟨G, 0, none⟩) 12 c)).run Tryd.prog W' = .ok (.string ⟨M.toArray⟩) W' := fun W' hr => run_str (P := Tryd.prog) W' 41 9 5 ⟨G, 0, none⟩ 12 c M hMl Tryd.underlying41 Tryd.underlying5 Tryd.underlying9 hr.rd
  generalize (⟨M.toArray⟩ : ByteArray) = U at hcvd
  have sI : (s.size : Int) ≤ 40 := by omega
  have s0 : (0 : Int) ≤ s.size := by omega
  clear hfz hcl hlt hcv Hrow HB hb3 hb2 hsz2 hb1 hTl hMl
  have hcv3 := hcvd W.drew hrW
  clear hcvd
  go_region
  all_goals
    go_wp2_with fail
    simp only [hp1, hm1]
    clear hp1 hm1 hnx hTz hT
    generalize T.extract 0 p = V
    have hd := Lib.hid hW.drew
    go_loopw [56] (fun i wr => ∃ k : Nat, k ≤ 4 ∧ i = .int .i64 k ∧ Hid (Below w.heap.size w wr)) (fun i _ => 4 - (intOf i).toNat)
    case atStart => exact ⟨0, by omega, rfl, hd⟩
    case round =>
      clear hW hd hrW hcv3
      obtain ⟨k, hk, rfl, hid⟩ := hrel
      have h0 := hid.out
      clear hid
      rcases (show k = 0 ∨ k = 1 ∨ k = 2 ∨ k = 3 ∨ k = 4 by omega) with rfl | rfl | rfl | rfl | rfl
      · rw [show (((0 : Nat)) : Int) = 0 from rfl]
        have x0 : ∀ W, (Instr.index 42 (.agg #[.string (s), .string T, .string U, .string V]) (.int .i64 0)).run Tryd.prog W = .ok (.string (s)) W := fun _ => by kernel_rfl
        obtain ⟨a, b, c2, hv⟩ := prsV_form (s).data.toList
        have HV := Lib.hid hv
        clear hv
        go_wp2_with fail
        refine (parse_t (s) a b c2 HV.out _).mono ?_
        rintro e w1 ⟨rfl, hb1⟩
        have h1 := h0.trans (hb1.mono h0.size)
        clear hb1 h0
        go_wp2_with fail
        have h1' := h1.alloc h1.size (.cells #[.int .i64 a, .int .i64 b] 23)
        have q1 := bp_new w1 a b 23
        generalize w1.alloc (.cells #[.int .i64 a, .int .i64 b] 23) = w3 at h1' q1 ⊢
        generalize w1.heap.size = B at q1 ⊢
        refine (rparse_t (s) a b c2 HV.out _).mono ?_
        rintro e w2 ⟨rfl, hb2⟩
        have q2 := q1.keep hb2
        have h2 := h1'.trans (hb2.mono h1'.size)
        have c0 := q2.2.1
        have c1 := q2.2.2
        have hlB := q2.1
        clear hb2 h1 h1' q1
        have e0 := cell_box w2 (.cells #[.int .i64 a, .int .i64 b] 23) B 0 _ c0 hlB
        have e1 := cell_box w2 (.cells #[.int .i64 a, .int .i64 b] 23) B 1 _ c1 hlB
        go_wp2
        go_roundw
        case rel => exact ⟨1, by omega, rfl, h2.alloc h2.size _⟩
        case measure => simp [intOf]
      · rw [show (((1 : Nat)) : Int) = 1 from rfl]
        have x0 : ∀ W, (Instr.index 42 (.agg #[.string (s), .string T, .string U, .string V]) (.int .i64 1)).run Tryd.prog W = .ok (.string (T)) W := fun _ => by kernel_rfl
        obtain ⟨a, b, c2, hv⟩ := prsV_form (T).data.toList
        have HV := Lib.hid hv
        clear hv
        go_wp2_with fail
        refine (parse_t (T) a b c2 HV.out _).mono ?_
        rintro e w1 ⟨rfl, hb1⟩
        have h1 := h0.trans (hb1.mono h0.size)
        clear hb1 h0
        go_wp2_with fail
        have h1' := h1.alloc h1.size (.cells #[.int .i64 a, .int .i64 b] 23)
        have q1 := bp_new w1 a b 23
        generalize w1.alloc (.cells #[.int .i64 a, .int .i64 b] 23) = w3 at h1' q1 ⊢
        generalize w1.heap.size = B at q1 ⊢
        refine (rparse_t (T) a b c2 HV.out _).mono ?_
        rintro e w2 ⟨rfl, hb2⟩
        have q2 := q1.keep hb2
        have h2 := h1'.trans (hb2.mono h1'.size)
        have c0 := q2.2.1
        have c1 := q2.2.2
        have hlB := q2.1
        clear hb2 h1 h1' q1
        have e0 := cell_box w2 (.cells #[.int .i64 a, .int .i64 b] 23) B 0 _ c0 hlB
        have e1 := cell_box w2 (.cells #[.int .i64 a, .int .i64 b] 23) B 1 _ c1 hlB
        go_wp2
        go_roundw
        case rel => exact ⟨2, by omega, rfl, h2.alloc h2.size _⟩
        case measure => simp [intOf]
      · rw [show (((2 : Nat)) : Int) = 2 from rfl]
        have x0 : ∀ W, (Instr.index 42 (.agg #[.string (s), .string T, .string U, .string V]) (.int .i64 2)).run Tryd.prog W = .ok (.string (U)) W := fun _ => by kernel_rfl
        obtain ⟨a, b, c2, hv⟩ := prsV_form (U).data.toList
        have HV := Lib.hid hv
        clear hv
        go_wp2_with fail
        refine (parse_t (U) a b c2 HV.out _).mono ?_
        rintro e w1 ⟨rfl, hb1⟩
        have h1 := h0.trans (hb1.mono h0.size)
        clear hb1 h0
        go_wp2_with fail
        have h1' := h1.alloc h1.size (.cells #[.int .i64 a, .int .i64 b] 23)
        have q1 := bp_new w1 a b 23
        generalize w1.alloc (.cells #[.int .i64 a, .int .i64 b] 23) = w3 at h1' q1 ⊢
        generalize w1.heap.size = B at q1 ⊢
        refine (rparse_t (U) a b c2 HV.out _).mono ?_
        rintro e w2 ⟨rfl, hb2⟩
        have q2 := q1.keep hb2
        have h2 := h1'.trans (hb2.mono h1'.size)
        have c0 := q2.2.1
        have c1 := q2.2.2
        have hlB := q2.1
        clear hb2 h1 h1' q1
        have e0 := cell_box w2 (.cells #[.int .i64 a, .int .i64 b] 23) B 0 _ c0 hlB
        have e1 := cell_box w2 (.cells #[.int .i64 a, .int .i64 b] 23) B 1 _ c1 hlB
        go_wp2
        go_roundw
        case rel => exact ⟨3, by omega, rfl, h2.alloc h2.size _⟩
        case measure => simp [intOf]
      · rw [show (((3 : Nat)) : Int) = 3 from rfl]
        have x0 : ∀ W, (Instr.index 42 (.agg #[.string (s), .string T, .string U, .string V]) (.int .i64 3)).run Tryd.prog W = .ok (.string (V)) W := fun _ => by kernel_rfl
        obtain ⟨a, b, c2, hv⟩ := prsV_form (V).data.toList
        have HV := Lib.hid hv
        clear hv
        go_wp2_with fail
        refine (parse_t (V) a b c2 HV.out _).mono ?_
        rintro e w1 ⟨rfl, hb1⟩
        have h1 := h0.trans (hb1.mono h0.size)
        clear hb1 h0
        go_wp2_with fail
        have h1' := h1.alloc h1.size (.cells #[.int .i64 a, .int .i64 b] 23)
        have q1 := bp_new w1 a b 23
        generalize w1.alloc (.cells #[.int .i64 a, .int .i64 b] 23) = w3 at h1' q1 ⊢
        generalize w1.heap.size = B at q1 ⊢
        refine (rparse_t (V) a b c2 HV.out _).mono ?_
        rintro e w2 ⟨rfl, hb2⟩
        have q2 := q1.keep hb2
        have h2 := h1'.trans (hb2.mono h1'.size)
        have c0 := q2.2.1
        have c1 := q2.2.2
        have hlB := q2.1
        clear hb2 h1 h1' q1
        have e0 := cell_box w2 (.cells #[.int .i64 a, .int .i64 b] 23) B 0 _ c0 hlB
        have e1 := cell_box w2 (.cells #[.int .i64 a, .int .i64 b] 23) B 1 _ c1 hlB
        go_wp2
        go_roundw
        case rel => exact ⟨4, by omega, rfl, h2.alloc h2.size _⟩
        case measure => simp [intOf]
      · rw [show (((4 : Nat)) : Int) = 4 from rfl]
        go_wp2_with fail
        refine (works_any _ ((H.out).keep h0)).mono ?_
        rintro e w1 ⟨rfl, hb1⟩
        have h1 := h0.trans (hb1.mono h0.size)
        clear hb1 h0
        go_wp2
        go_ret
        exact ⟨rfl, h1⟩
set_option maxRecDepth 100000 in
set_option maxHeartbeats 8000000 in
theorem parses_long (s : ByteArray) (n : Int) (at_ sign : UInt8) (w : World) (h : Tc w) (n0 : 0 ≤ n) (n1 : n ≤ 4294967295) (hs : s.size ≤ 9223372036854775807) (hs40 : 40 < s.size) : Calls Tryd.prog 5 #[.string s, .int .u32 n, .int .u8 (at_.toNat : Int), .int .u8 (sign.toNat : Int)] w fun e w' => e = .returned (.bool true) ∧ Below w.heap.size w w' := by
  have H := Lib.hid h; clear h
  obtain ⟨x, hx, hnx⟩ := mod24 n
  have ha : at_.toNat < 256 := at_.toNat_lt
  go_enter Tryd.func5, Tryd.ntmps5
  go_wp2_with fail
  rw [hnx]
  refine (rtext_some 2 (x : Int) x _ (errC_ok 2 x (by omega)) (rgbC_x x hx) hx).mono ?_
  rintro e w1 ⟨rfl, hb1⟩
  have hT : (⟨(txt x).toArray⟩ : ByteArray).size = 12 := rfl
  generalize (⟨(txt x).toArray⟩ : ByteArray) = T at hT ⊢
  obtain ⟨c, w2, hcv, hc, hrow, hb2, hsz2⟩ := run_row (P := Tryd.prog) w1 9 41 T Tryd.underlying9 Tryd.underlying41 Tryd.underlying5
  rw [hT] at hcv hc
  have hTl : T.data.toList.length = 12 := by rw [← hT]; simp
  have hb3 := hb1.trans (hb2.mono hb1.size)
  have hG := hb1.size
  generalize w1.heap.size = G at hcv hrow hG
  obtain ⟨m, hm⟩ : ∃ m : Nat, at_.toNat % 12 = m := ⟨_, rfl⟩
  have hm1 : (at_.toNat : Int) % 12 = (m : Int) := by omega
  have hm2 : m < 12 := by omega
  obtain ⟨p, hp⟩ : ∃ p : Nat, at_.toNat % 13 = p := ⟨_, rfl⟩
  have hp1 : (at_.toNat : Int) % 13 = (p : Int) := by omega
  have hp2 : p < 13 := by omega
  clear hm hp
  have hfz := hrow.frozen m (by omega)
  obtain ⟨b0, hb0⟩ : ∃ b, T.data.toList[m]? = some b := ⟨T.data.toList[m]'(by omega), List.getElem?_eq_getElem (by omega)⟩
  have hcl := hrow.cell m b0 hb0
  have hlt := hrow.lt
  have hrow2 := hrow.set m sign
  have HB := Lib.hid (hb3.setCell (p := ⟨G, m, none⟩) hG (.int .u8 (sign.toNat : Int)))
  have hTz : (T.size : Int) = 12 := by omega
  have Hrow := Lib.hid hrow2
  clear hrow hrow2 hb0
  go_wp2_with fail
  have hW := HB.out
  have hrW := Hrow.out
  have hMl : (T.data.toList.set m sign).length = 12 := by rw [List.length_set]; exact hTl
  generalize w2.setCell ⟨G, m, none⟩ (.int .u8 (sign.toNat : Int)) = W at hW hrW ⊢
  generalize T.data.toList.set m sign = M at hrW hMl
  have hcvd : ∀ W', Row W' G M → (convert 41 9 (.slice (some ⟨G, 0, none⟩) 12 c)).run Tryd.prog W' = .ok (.string ⟨M.toArray⟩) W' := fun W' hr => run_str (P := Tryd.prog) W' 41 9 5 ⟨G, 0, none⟩ 12 c M hMl Tryd.underlying41 Tryd.underlying5 Tryd.underlying9 hr.rd
  generalize (⟨M.toArray⟩ : ByteArray) = U at hcvd
  have sI : (40 : Int) < (s.size : Int) := by omega
  have sJ : (40 : Int) ≤ (s.size : Int) := by omega
  have s0 : (0 : Int) ≤ s.size := by omega
  clear hfz hcl hlt hcv Hrow HB hb3 hb2 hsz2 hb1 hTl hMl
  have hcv3 := hcvd W.drew hrW
  clear hcvd
  go_region
  all_goals
    go_wp2_with fail
    simp only [hp1, hm1]
    clear hp1 hm1 hnx hTz hT
    generalize T.extract 0 p = V
    have hd := Lib.hid hW.drew
    go_loopw [56] (fun i wr => ∃ k : Nat, k ≤ 4 ∧ i = .int .i64 k ∧ Hid (Below w.heap.size w wr)) (fun i _ => 4 - (intOf i).toNat)
    case atStart => exact ⟨0, by omega, rfl, hd⟩
    case round =>
      clear hW hd hrW hcv3
      obtain ⟨k, hk, rfl, hid⟩ := hrel
      have h0 := hid.out
      clear hid
      rcases (show k = 0 ∨ k = 1 ∨ k = 2 ∨ k = 3 ∨ k = 4 by omega) with rfl | rfl | rfl | rfl | rfl
      · rw [show (((0 : Nat)) : Int) = 0 from rfl]
        have x0 : ∀ W, (Instr.index 42 (.agg #[.string (s.extract 0 40), .string T, .string U, .string V]) (.int .i64 0)).run Tryd.prog W = .ok (.string (s.extract 0 40)) W := fun _ => by kernel_rfl
        obtain ⟨a, b, c2, hv⟩ := prsV_form (s.extract 0 40).data.toList
        have HV := Lib.hid hv
        clear hv
        go_wp2_with fail
        refine (parse_t (s.extract 0 40) a b c2 HV.out _).mono ?_
        rintro e w1 ⟨rfl, hb1⟩
        have h1 := h0.trans (hb1.mono h0.size)
        clear hb1 h0
        go_wp2_with fail
        have h1' := h1.alloc h1.size (.cells #[.int .i64 a, .int .i64 b] 23)
        have q1 := bp_new w1 a b 23
        generalize w1.alloc (.cells #[.int .i64 a, .int .i64 b] 23) = w3 at h1' q1 ⊢
        generalize w1.heap.size = B at q1 ⊢
        refine (rparse_t (s.extract 0 40) a b c2 HV.out _).mono ?_
        rintro e w2 ⟨rfl, hb2⟩
        have q2 := q1.keep hb2
        have h2 := h1'.trans (hb2.mono h1'.size)
        have c0 := q2.2.1
        have c1 := q2.2.2
        have hlB := q2.1
        clear hb2 h1 h1' q1
        have e0 := cell_box w2 (.cells #[.int .i64 a, .int .i64 b] 23) B 0 _ c0 hlB
        have e1 := cell_box w2 (.cells #[.int .i64 a, .int .i64 b] 23) B 1 _ c1 hlB
        go_wp2
        go_roundw
        case rel => exact ⟨1, by omega, rfl, h2.alloc h2.size _⟩
        case measure => simp [intOf]
      · rw [show (((1 : Nat)) : Int) = 1 from rfl]
        have x0 : ∀ W, (Instr.index 42 (.agg #[.string (s.extract 0 40), .string T, .string U, .string V]) (.int .i64 1)).run Tryd.prog W = .ok (.string (T)) W := fun _ => by kernel_rfl
        obtain ⟨a, b, c2, hv⟩ := prsV_form (T).data.toList
        have HV := Lib.hid hv
        clear hv
        go_wp2_with fail
        refine (parse_t (T) a b c2 HV.out _).mono ?_
        rintro e w1 ⟨rfl, hb1⟩
        have h1 := h0.trans (hb1.mono h0.size)
        clear hb1 h0
        go_wp2_with fail
        have h1' := h1.alloc h1.size (.cells #[.int .i64 a, .int .i64 b] 23)
        have q1 := bp_new w1 a b 23
        generalize w1.alloc (.cells #[.int .i64 a, .int .i64 b] 23) = w3 at h1' q1 ⊢
        generalize w1.heap.size = B at q1 ⊢
        refine (rparse_t (T) a b c2 HV.out _).mono ?_
        rintro e w2 ⟨rfl, hb2⟩
        have q2 := q1.keep hb2
        have h2 := h1'.trans (hb2.mono h1'.size)
        have c0 := q2.2.1
        have c1 := q2.2.2
        have hlB := q2.1
        clear hb2 h1 h1' q1
        have e0 := cell_box w2 (.cells #[.int .i64 a, .int .i64 b] 23) B 0 _ c0 hlB
        have e1 := cell_box w2 (.cells #[.int .i64 a, .int .i64 b] 23) B 1 _ c1 hlB
        go_wp2
        go_roundw
        case rel => exact ⟨2, by omega, rfl, h2.alloc h2.size _⟩
        case measure => simp [intOf]
      · rw [show (((2 : Nat)) : Int) = 2 from rfl]
        have x0 : ∀ W, (Instr.index 42 (.agg #[.string (s.extract 0 40), .string T, .string U, .string V]) (.int .i64 2)).run Tryd.prog W = .ok (.string (U)) W := fun _ => by kernel_rfl
        obtain ⟨a, b, c2, hv⟩ := prsV_form (U).data.toList
        have HV := Lib.hid hv
        clear hv
        go_wp2_with fail
        refine (parse_t (U) a b c2 HV.out _).mono ?_
        rintro e w1 ⟨rfl, hb1⟩
        have h1 := h0.trans (hb1.mono h0.size)
        clear hb1 h0
        go_wp2_with fail
        have h1' := h1.alloc h1.size (.cells #[.int .i64 a, .int .i64 b] 23)
        have q1 := bp_new w1 a b 23
        generalize w1.alloc (.cells #[.int .i64 a, .int .i64 b] 23) = w3 at h1' q1 ⊢
        generalize w1.heap.size = B at q1 ⊢
        refine (rparse_t (U) a b c2 HV.out _).mono ?_
        rintro e w2 ⟨rfl, hb2⟩
        have q2 := q1.keep hb2
        have h2 := h1'.trans (hb2.mono h1'.size)
        have c0 := q2.2.1
        have c1 := q2.2.2
        have hlB := q2.1
        clear hb2 h1 h1' q1
        have e0 := cell_box w2 (.cells #[.int .i64 a, .int .i64 b] 23) B 0 _ c0 hlB
        have e1 := cell_box w2 (.cells #[.int .i64 a, .int .i64 b] 23) B 1 _ c1 hlB
        go_wp2
        go_roundw
        case rel => exact ⟨3, by omega, rfl, h2.alloc h2.size _⟩
        case measure => simp [intOf]
      · rw [show (((3 : Nat)) : Int) = 3 from rfl]
        have x0 : ∀ W, (Instr.index 42 (.agg #[.string (s.extract 0 40), .string T, .string U, .string V]) (.int .i64 3)).run Tryd.prog W = .ok (.string (V)) W := fun _ => by kernel_rfl
        obtain ⟨a, b, c2, hv⟩ := prsV_form (V).data.toList
        have HV := Lib.hid hv
        clear hv
        go_wp2_with fail
        refine (parse_t (V) a b c2 HV.out _).mono ?_
        rintro e w1 ⟨rfl, hb1⟩
        have h1 := h0.trans (hb1.mono h0.size)
        clear hb1 h0
        go_wp2_with fail
        have h1' := h1.alloc h1.size (.cells #[.int .i64 a, .int .i64 b] 23)
        have q1 := bp_new w1 a b 23
        generalize w1.alloc (.cells #[.int .i64 a, .int .i64 b] 23) = w3 at h1' q1 ⊢
        generalize w1.heap.size = B at q1 ⊢
        refine (rparse_t (V) a b c2 HV.out _).mono ?_
        rintro e w2 ⟨rfl, hb2⟩
        have q2 := q1.keep hb2
        have h2 := h1'.trans (hb2.mono h1'.size)
        have c0 := q2.2.1
        have c1 := q2.2.2
        have hlB := q2.1
        clear hb2 h1 h1' q1
        have e0 := cell_box w2 (.cells #[.int .i64 a, .int .i64 b] 23) B 0 _ c0 hlB
        have e1 := cell_box w2 (.cells #[.int .i64 a, .int .i64 b] 23) B 1 _ c1 hlB
        go_wp2
        go_roundw
        case rel => exact ⟨4, by omega, rfl, h2.alloc h2.size _⟩
        case measure => simp [intOf]
      · rw [show (((4 : Nat)) : Int) = 4 from rfl]
        go_wp2_with fail
        refine (works_any _ ((H.out).keep h0)).mono ?_
        rintro e w1 ⟨rfl, hb1⟩
        have h1 := h0.trans (hb1.mono h0.size)
        clear hb1 h0
        go_wp2
        go_ret
        exact ⟨rfl, h1⟩
theorem parses_any (s : ByteArray) (n : Int) (at_ sign : UInt8) (w : World) (h : Tc w) (n0 : 0 ≤ n) (n1 : n ≤ 4294967295) (hs : s.size ≤ 9223372036854775807) : Calls Tryd.prog 5 #[.string s, .int .u32 n, .int .u8 (at_.toNat : Int), .int .u8 (sign.toNat : Int)] w fun e w' => e = .returned (.bool true) ∧ Below w.heap.size w w' := by
  by_cases h40 : s.size ≤ 40
  · exact parses_short s n at_ sign w h n0 n1 hs h40
  · exact parses_long s n at_ sign w h n0 n1 hs (by omega)
end Go.Proofs.YtddgigiajenmkaaDoor.Col
