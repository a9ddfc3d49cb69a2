/-
  The walk of ParamParses.
-/
import Derived.Test.YtelglcchcpnfbaaDoorParN
import Derived.Test.YtelglcchcpnfbaaDoorParQ
import Derived.Test.YtelglcchcpnfbaaDoorParAc
import Derived.Test.YtelglcchcpnfbaaDoorColRow8
namespace Go.Proofs.YtelglcchcpnfbaaDoor.Par
open Go.RowKit Utf

theorem min_150 (n : Nat) (h : (n : Int) ≤ 150) : (if (150 : Int) < (n : Int) then (150 : Int) else (n : Int)) = (n : Int) := by rw [if_neg (by omega)]
attribute [local go_sem] min_150
theorem ix3s (a b c : ByteArray) (k : Nat) (hk : k < 3) : ∃ t : ByteArray, ∀ W, (Instr.index 47 (.agg #[.string a, .string b, .string c]) (.int .i64 (k : Int))).run Tryd.prog W = .ok (.string t) W := by
  rcases (show k = 0 ∨ k = 1 ∨ k = 2 by omega) with rfl | rfl | rfl
  · exact ⟨a, fun _ => by kernel_rfl⟩
  · exact ⟨b, fun _ => by kernel_rfl⟩
  · exact ⟨c, fun _ => by kernel_rfl⟩
theorem sz_nil : Sz [] := ⟨by simp, by simp⟩
theorem runV_sz (s : List UInt8) (a : List (List Int)) (h : Sz a) : Sz (runV a s).1 := by
  induction s generalizing a with
  | nil => exact h
  | cons c s ih =>
    rw [runV]
    split
    · exact ih _ (stpV_sz a c)
    · exact sz_nil
theorem prsV_sz (s : List UInt8) : Sz (prsV s).1 := by
  unfold prsV
  split
  · exact sz_nil
  · exact runV_sz s [] sz_nil
set_option maxRecDepth 100000 in
set_option maxHeartbeats 8000000 in
theorem parses_a (s : ByteArray) (u : Value) (ps : List UInt16) (ms : List UInt8) (at_ ch : UInt8) (w : World) (hu : DrR w u ps ms) (ht : Tab w) (hs : s.size ≤ 9223372036854775807) (hs5 : s.size ≤ 150) (hq0 : 0 < (prtL (rowV ps ms)).length) :
    Calls Tryd.prog 5 #[.string s, u, .int .u8 (at_.toNat : Int), .int .u8 (ch.toNat : Int)] w fun e w' => e = .returned (.bool true) ∧ Below w.heap.size w w' := by
  have HT := Lib.hid ht; clear ht
  have Hu := Lib.hid hu
  obtain ⟨A, n, c, B, m, e, rfl, -⟩ := hu
  have hb0 : Below w.heap.size w (w.alloc (.cells #[.slice A n c, .slice B m e] 26)) := below_box _ _
  have hx1 := Box.new w #[.slice A n c, .slice B m e] 26
  have HB0 := Lib.hid hb0
  have HT2 := Lib.hid (HT.out.keep hb0)
  have hc0 := hx1.cell 0 _ rfl
  have hc1 := hx1.cell 1 _ rfl
  have ia := rowV_ok ps ms
  obtain ⟨sa, pa, ca, _⟩ := good_is ia
  have hq9 : (prtL (rowV ps ms)).length ≤ 496 := by
    have h1 := txt_len (rowV ps ms) (rowV ps ms).length ia
    rw [txt_all] at h1
    have := (bad_no ia).1
    omega
  have hC := at_.toNat_lt
  generalize at_.toNat = C at hC ⊢
  go_enter Tryd.func5, Tryd.ntmps5
  go_wp2_with fail
  refine (drow_any _ ps ms _ (Hu.out.keep hb0)).mono ?_
  rintro e3 w3 ⟨v3, rfl, h3, hb3⟩
  generalize w.alloc (.cells #[.slice A n c, .slice B m e] 26) = w2 at HB0 HT2 hb3 ⊢
  generalize rowV ps ms = a at ia sa pa ca h3 hq0 hq9
  obtain ⟨A3, c3, rfl⟩ := h3.form
  have HC := Lib.hid (rprint_any _ a _ h3 sa.1)
  rw [pa, ca] at HC
  have hT : (⟨(prtL a).toArray⟩ : ByteArray).size = (prtL a).length := by simp [ByteArray.size]
  generalize (⟨(prtL a).toArray⟩ : ByteArray) = T at HC hT
  generalize a.length = na at HC h3 ⊢
  obtain ⟨q, hq⟩ : ∃ q, q = (prtL a).length := ⟨_, rfl⟩
  rw [← hq] at hT hq0 hq9
  clear h3 hq hc0 hc1 hx1 hb0 Hu HT ia sa pa ca
  go_wp2_with fail
  refine HC.out.mono ?_
  rintro e4 w4 ⟨rfl, hb4⟩
  have hb34 := up hb3 hb4
  clear HC hb3 hb4
  obtain ⟨cq, w5, hcv, hcq, hrow, hb5, hsz5⟩ := Col.run_row (P := Tryd.prog) w4 9 24 T Tryd.underlying9 Tryd.underlying24 Tryd.underlying5
  rw [hT] at hcv hcq
  have hTl : T.data.toList.length = q := by rw [← hT]; simp
  have hW5 := up hb34 hb5
  have hG := hb34.size
  generalize w4.heap.size = G at hcv hrow hG
  have hTz : (T.size : Int) = (q : Int) := by omega
  obtain ⟨f, hf⟩ : ∃ f : Nat, f = C % q := ⟨_, rfl⟩
  have hf1 : (C : Int) % (q : Int) = (f : Int) := by rw [hf]; rfl
  have hf2 : f < q := by rw [hf]; exact Nat.mod_lt _ hq0
  have hnz : ¬ ((q : Int) = 0) := by omega
  have hpos : decide ((0 : Int) < (q : Int)) = true := decide_eq_true (by omega)
  have f1 : (0 : Int) ≤ (f : Int) := by omega
  have f2 : (f : Int) < (q : Int) := by omega
  clear hf
  have hfz := hrow.frozen f (by omega)
  obtain ⟨b0, hb0⟩ := get_some T.data.toList f (by omega)
  have hcl := hrow.cell f b0 hb0
  have hlt := hrow.lt
  have hrow2 := hrow.set f ch
  have HB := Lib.hid (hW5.setCell (p := ⟨G, f, none⟩) hG (.int .u8 (ch.toNat : Int)))
  have Hrow := Lib.hid hrow2
  clear hrow hrow2 hb0 hW5
  go_wp2_with fail
  have hW := HB.out
  have hrW := Hrow.out
  have hMl : (T.data.toList.set f ch).length = q := by rw [List.length_set]; exact hTl
  generalize w5.setCell ⟨G, f, none⟩ (.int .u8 (ch.toNat : Int)) = W at hW hrW ⊢
  generalize T.data.toList.set f ch = M at hrW hMl
  clear hfz hcl hlt hcv Hrow HB hb5 hsz5 hb34 hTl
  have hcv3 : (convert 24 9 (.slice (some ⟨G, 0, none⟩) q cq)).run Tryd.prog W.drew = .ok (.string ⟨M.toArray⟩) W.drew := Col.run_str (P := Tryd.prog) W.drew 24 9 5 ⟨G, 0, none⟩ q cq M hMl Tryd.underlying24 Tryd.underlying5 Tryd.underlying9 (Col.Row.rd (hrW.keep (Below.refl _ _).drew))
  generalize (⟨M.toArray⟩ : ByteArray) = U at hcv3
  clear hrW hMl
  have sI : (s.size : Int) ≤ 150 := by omega
  have s0 : (0 : Int) ≤ s.size := by omega
  go_region
  rw [hf1]
  clear hf1 hnz f1 f2 hf2
  generalize min (s.size : Int) 150 = mn
  generalize s.extract 0 mn.toNat = SX
  clear sI s0 hcv3 hC hq9
  have HT4 := Lib.hid (HT2.out.keep hW)
  have HW := Lib.hid (up HB0.out hW)
  clear hW
  go_wp2
  obtain ⟨w9, hw9⟩ : ∃ w9, w9 = W.drew := ⟨_, rfl⟩
  have HT9 := Lib.hid (HT4.out.keep (Below.refl _ _).drew)
  have HW9 := Lib.hid HW.out.drew
  rw [← hw9] at HT9 HW9 ⊢
  clear hw9 HT4 HW
  go_loopw [46] (fun i wr => ∃ k : Nat, k ≤ 3 ∧ i = .int .i64 k ∧ Hid (Below w9.heap.size w9 wr)) (fun i _ => 3 - (intOf i).toNat)
  case atStart => exact ⟨0, by omega, rfl, Below.refl _ _⟩
  case round =>
    obtain ⟨k, hk, rfl, hid⟩ := hrel
    by_cases hlt : k < 3
    · obtain ⟨t, e0⟩ := ix3s SX T U k hlt
      have HC := Lib.hid (parse_any t wr)
      have HR := fun W => Lib.hid (rparse_any t W)
      have HZ := Lib.hid (prsV_sz t.data.toList)
      generalize prsV t.data.toList = r at HC HR HZ
      obtain ⟨y, r⟩ := r
      dsimp only at HC HR HZ
      have c1 : decide ((k : Int) < 3) = true := decide_eq_true (by omega)
      go_wp2_with (first
        | (go_at_call 23; refine HC.out.mono ?_; rintro e1 w5 ⟨v5, rfl, h5, hb5⟩; obtain ⟨A5, c5, rfl⟩ := h5.1.none; have H5 := Lib.hid h5.1; clear h5)
        | (go_at_call 24; refine (HR _).out.mono ?_; rintro e1 w6 ⟨v6, rfl, h6, hb6⟩; obtain ⟨A6, c6, rfl⟩ := h6.none; have H6 := Lib.hid h6; clear h6; obtain ⟨ny, hny⟩ : ∃ ny, ny = y.length := ⟨_, rfl⟩; rw [← hny] at H5 H6 ⊢; clear hny)
        | (go_at_call 17; refine (rsame_any _ _ y y _ (H5.out.keep hb6) H6.out HZ.out.1 HZ.out.2 HZ.out.2).mono ?_; rw [decide_eq_true rfl]; rintro e7 w7 ⟨rfl, hb7⟩))
      exact ⟨⟨k + 1, by omega, by go_num, up hid.out (up hb5 (up hb6 hb7))⟩, by simp [intOf]; omega⟩
    · have c1 : decide ((k : Int) < 3) = false := decide_eq_false (by omega)
      go_wp2_with (go_at_call 20; refine (works_any _ (HT9.out.keep hid.out)).mono ?_; rintro e7 w7 ⟨rfl, hb7⟩)
      go_ret
      exact ⟨rfl, up HW9.out (up hid.out hb7)⟩
set_option maxRecDepth 100000 in
set_option maxHeartbeats 8000000 in
theorem parses_b (s : ByteArray) (u : Value) (ps : List UInt16) (ms : List UInt8) (at_ ch : UInt8) (w : World) (hu : DrR w u ps ms) (ht : Tab w) (hs : s.size ≤ 9223372036854775807) (hs5 : 150 < s.size) (hq0 : 0 < (prtL (rowV ps ms)).length) :
    Calls Tryd.prog 5 #[.string s, u, .int .u8 (at_.toNat : Int), .int .u8 (ch.toNat : Int)] w fun e w' => e = .returned (.bool true) ∧ Below w.heap.size w w' := by
  have HT := Lib.hid ht; clear ht
  have Hu := Lib.hid hu
  obtain ⟨A, n, c, B, m, e, rfl, -⟩ := hu
  have hb0 : Below w.heap.size w (w.alloc (.cells #[.slice A n c, .slice B m e] 26)) := below_box _ _
  have hx1 := Box.new w #[.slice A n c, .slice B m e] 26
  have HB0 := Lib.hid hb0
  have HT2 := Lib.hid (HT.out.keep hb0)
  have hc0 := hx1.cell 0 _ rfl
  have hc1 := hx1.cell 1 _ rfl
  have ia := rowV_ok ps ms
  obtain ⟨sa, pa, ca, _⟩ := good_is ia
  have hq9 : (prtL (rowV ps ms)).length ≤ 496 := by
    have h1 := txt_len (rowV ps ms) (rowV ps ms).length ia
    rw [txt_all] at h1
    have := (bad_no ia).1
    omega
  have hC := at_.toNat_lt
  generalize at_.toNat = C at hC ⊢
  go_enter Tryd.func5, Tryd.ntmps5
  go_wp2_with fail
  refine (drow_any _ ps ms _ (Hu.out.keep hb0)).mono ?_
  rintro e3 w3 ⟨v3, rfl, h3, hb3⟩
  generalize w.alloc (.cells #[.slice A n c, .slice B m e] 26) = w2 at HB0 HT2 hb3 ⊢
  generalize rowV ps ms = a at ia sa pa ca h3 hq0 hq9
  obtain ⟨A3, c3, rfl⟩ := h3.form
  have HC := Lib.hid (rprint_any _ a _ h3 sa.1)
  rw [pa, ca] at HC
  have hT : (⟨(prtL a).toArray⟩ : ByteArray).size = (prtL a).length := by simp [ByteArray.size]
  generalize (⟨(prtL a).toArray⟩ : ByteArray) = T at HC hT
  generalize a.length = na at HC h3 ⊢
  obtain ⟨q, hq⟩ : ∃ q, q = (prtL a).length := ⟨_, rfl⟩
  rw [← hq] at hT hq0 hq9
  clear h3 hq hc0 hc1 hx1 hb0 Hu HT ia sa pa ca
  go_wp2_with fail
  refine HC.out.mono ?_
  rintro e4 w4 ⟨rfl, hb4⟩
  have hb34 := up hb3 hb4
  clear HC hb3 hb4
  obtain ⟨cq, w5, hcv, hcq, hrow, hb5, hsz5⟩ := Col.run_row (P := Tryd.prog) w4 9 24 T Tryd.underlying9 Tryd.underlying24 Tryd.underlying5
  rw [hT] at hcv hcq
  have hTl : T.data.toList.length = q := by rw [← hT]; simp
  have hW5 := up hb34 hb5
  have hG := hb34.size
  generalize w4.heap.size = G at hcv hrow hG
  have hTz : (T.size : Int) = (q : Int) := by omega
  obtain ⟨f, hf⟩ : ∃ f : Nat, f = C % q := ⟨_, rfl⟩
  have hf1 : (C : Int) % (q : Int) = (f : Int) := by rw [hf]; rfl
  have hf2 : f < q := by rw [hf]; exact Nat.mod_lt _ hq0
  have hnz : ¬ ((q : Int) = 0) := by omega
  have hpos : decide ((0 : Int) < (q : Int)) = true := decide_eq_true (by omega)
  have f1 : (0 : Int) ≤ (f : Int) := by omega
  have f2 : (f : Int) < (q : Int) := by omega
  clear hf
  have hfz := hrow.frozen f (by omega)
  obtain ⟨b0, hb0⟩ := get_some T.data.toList f (by omega)
  have hcl := hrow.cell f b0 hb0
  have hlt := hrow.lt
  have hrow2 := hrow.set f ch
  have HB := Lib.hid (hW5.setCell (p := ⟨G, f, none⟩) hG (.int .u8 (ch.toNat : Int)))
  have Hrow := Lib.hid hrow2
  clear hrow hrow2 hb0 hW5
  go_wp2_with fail
  have hW := HB.out
  have hrW := Hrow.out
  have hMl : (T.data.toList.set f ch).length = q := by rw [List.length_set]; exact hTl
  generalize w5.setCell ⟨G, f, none⟩ (.int .u8 (ch.toNat : Int)) = W at hW hrW ⊢
  generalize T.data.toList.set f ch = M at hrW hMl
  clear hfz hcl hlt hcv Hrow HB hb5 hsz5 hb34 hTl
  have hcv3 : (convert 24 9 (.slice (some ⟨G, 0, none⟩) q cq)).run Tryd.prog W.drew = .ok (.string ⟨M.toArray⟩) W.drew := Col.run_str (P := Tryd.prog) W.drew 24 9 5 ⟨G, 0, none⟩ q cq M hMl Tryd.underlying24 Tryd.underlying5 Tryd.underlying9 (Col.Row.rd (hrW.keep (Below.refl _ _).drew))
  generalize (⟨M.toArray⟩ : ByteArray) = U at hcv3
  clear hrW hMl
  have sI : (150 : Int) < (s.size : Int) := by omega
  have sJ : (150 : Int) ≤ (s.size : Int) := by omega
  have s0 : (0 : Int) ≤ s.size := by omega
  go_region
  rw [hf1]
  clear hf1 hnz f1 f2 hf2
  generalize min (s.size : Int) 150 = mn
  generalize s.extract 0 mn.toNat = SX
  clear sI s0 hcv3 hC hq9
  have HT4 := Lib.hid (HT2.out.keep hW)
  have HW := Lib.hid (up HB0.out hW)
  clear hW
  go_wp2
  obtain ⟨w9, hw9⟩ : ∃ w9, w9 = W.drew := ⟨_, rfl⟩
  have HT9 := Lib.hid (HT4.out.keep (Below.refl _ _).drew)
  have HW9 := Lib.hid HW.out.drew
  rw [← hw9] at HT9 HW9 ⊢
  clear hw9 HT4 HW
  go_loopw [46] (fun i wr => ∃ k : Nat, k ≤ 3 ∧ i = .int .i64 k ∧ Hid (Below w9.heap.size w9 wr)) (fun i _ => 3 - (intOf i).toNat)
  case atStart => exact ⟨0, by omega, rfl, Below.refl _ _⟩
  case round =>
    obtain ⟨k, hk, rfl, hid⟩ := hrel
    by_cases hlt : k < 3
    · obtain ⟨t, e0⟩ := ix3s SX T U k hlt
      have HC := Lib.hid (parse_any t wr)
      have HR := fun W => Lib.hid (rparse_any t W)
      have HZ := Lib.hid (prsV_sz t.data.toList)
      generalize prsV t.data.toList = r at HC HR HZ
      obtain ⟨y, r⟩ := r
      dsimp only at HC HR HZ
      have c1 : decide ((k : Int) < 3) = true := decide_eq_true (by omega)
      go_wp2_with (first
        | (go_at_call 23; refine HC.out.mono ?_; rintro e1 w5 ⟨v5, rfl, h5, hb5⟩; obtain ⟨A5, c5, rfl⟩ := h5.1.none; have H5 := Lib.hid h5.1; clear h5)
        | (go_at_call 24; refine (HR _).out.mono ?_; rintro e1 w6 ⟨v6, rfl, h6, hb6⟩; obtain ⟨A6, c6, rfl⟩ := h6.none; have H6 := Lib.hid h6; clear h6; obtain ⟨ny, hny⟩ : ∃ ny, ny = y.length := ⟨_, rfl⟩; rw [← hny] at H5 H6 ⊢; clear hny)
        | (go_at_call 17; refine (rsame_any _ _ y y _ (H5.out.keep hb6) H6.out HZ.out.1 HZ.out.2 HZ.out.2).mono ?_; rw [decide_eq_true rfl]; rintro e7 w7 ⟨rfl, hb7⟩))
      exact ⟨⟨k + 1, by omega, by go_num, up hid.out (up hb5 (up hb6 hb7))⟩, by simp [intOf]; omega⟩
    · have c1 : decide ((k : Int) < 3) = false := decide_eq_false (by omega)
      go_wp2_with (go_at_call 20; refine (works_any _ (HT9.out.keep hid.out)).mono ?_; rintro e7 w7 ⟨rfl, hb7⟩)
      go_ret
      exact ⟨rfl, up HW9.out (up hid.out hb7)⟩
set_option maxRecDepth 100000 in
set_option maxHeartbeats 8000000 in
theorem parses_c (s : ByteArray) (u : Value) (ps : List UInt16) (ms : List UInt8) (at_ ch : UInt8) (w : World) (hu : DrR w u ps ms) (ht : Tab w) (hs : s.size ≤ 9223372036854775807) (hs5 : s.size ≤ 150) (hq0 : (prtL (rowV ps ms)).length = 0) :
    Calls Tryd.prog 5 #[.string s, u, .int .u8 (at_.toNat : Int), .int .u8 (ch.toNat : Int)] w fun e w' => e = .returned (.bool true) ∧ Below w.heap.size w w' := by
  have HT := Lib.hid ht; clear ht
  have Hu := Lib.hid hu
  obtain ⟨A, n, c, B, m, e, rfl, -⟩ := hu
  have hb0 : Below w.heap.size w (w.alloc (.cells #[.slice A n c, .slice B m e] 26)) := below_box _ _
  have hx1 := Box.new w #[.slice A n c, .slice B m e] 26
  have HB0 := Lib.hid hb0
  have HT2 := Lib.hid (HT.out.keep hb0)
  have hc0 := hx1.cell 0 _ rfl
  have hc1 := hx1.cell 1 _ rfl
  have ia := rowV_ok ps ms
  obtain ⟨sa, pa, ca, _⟩ := good_is ia
  have hq9 : (prtL (rowV ps ms)).length ≤ 496 := by
    have h1 := txt_len (rowV ps ms) (rowV ps ms).length ia
    rw [txt_all] at h1
    have := (bad_no ia).1
    omega
  have hC := at_.toNat_lt
  generalize at_.toNat = C at hC ⊢
  go_enter Tryd.func5, Tryd.ntmps5
  go_wp2_with fail
  refine (drow_any _ ps ms _ (Hu.out.keep hb0)).mono ?_
  rintro e3 w3 ⟨v3, rfl, h3, hb3⟩
  generalize w.alloc (.cells #[.slice A n c, .slice B m e] 26) = w2 at HB0 HT2 hb3 ⊢
  generalize rowV ps ms = a at ia sa pa ca h3 hq0 hq9
  obtain ⟨A3, c3, rfl⟩ := h3.form
  have HC := Lib.hid (rprint_any _ a _ h3 sa.1)
  rw [pa, ca] at HC
  have hT : (⟨(prtL a).toArray⟩ : ByteArray).size = (prtL a).length := by simp [ByteArray.size]
  generalize (⟨(prtL a).toArray⟩ : ByteArray) = T at HC hT
  generalize a.length = na at HC h3 ⊢
  obtain ⟨q, hq⟩ : ∃ q, q = (prtL a).length := ⟨_, rfl⟩
  rw [← hq] at hT hq0 hq9
  clear h3 hq hc0 hc1 hx1 hb0 Hu HT ia sa pa ca
  go_wp2_with fail
  refine HC.out.mono ?_
  rintro e4 w4 ⟨rfl, hb4⟩
  have hb34 := up hb3 hb4
  clear HC hb3 hb4
  obtain ⟨cq, w5, hcv, hcq, hrow, hb5, hsz5⟩ := Col.run_row (P := Tryd.prog) w4 9 24 T Tryd.underlying9 Tryd.underlying24 Tryd.underlying5
  rw [hT] at hcv hcq
  have hTl : T.data.toList.length = q := by rw [← hT]; simp
  have hW5 := up hb34 hb5
  have hG := hb34.size
  generalize w4.heap.size = G at hcv hrow hG
  have hTz : (T.size : Int) = (q : Int) := by omega
  subst hq0
  have HB := Lib.hid hW5
  have Hrow := Lib.hid hrow
  clear hrow hW5
  go_wp2_with fail
  have hW := HB.out
  have hrW := Hrow.out
  have hMl : T.data.toList.length = 0 := hTl
  generalize w5 = W at hW hrW ⊢
  generalize T.data.toList = M at hrW hMl
  clear hcv Hrow HB hb5 hsz5 hb34 hTl
  have hcv3 : (convert 24 9 (.slice (some ⟨G, 0, none⟩) 0 cq)).run Tryd.prog W.drew = .ok (.string ⟨M.toArray⟩) W.drew := Col.run_str (P := Tryd.prog) W.drew 24 9 5 ⟨G, 0, none⟩ 0 cq M hMl Tryd.underlying24 Tryd.underlying5 Tryd.underlying9 (Col.Row.rd (hrW.keep (Below.refl _ _).drew))
  generalize (⟨M.toArray⟩ : ByteArray) = U at hcv3
  clear hrW hMl
  have sI : (s.size : Int) ≤ 150 := by omega
  have s0 : (0 : Int) ≤ s.size := by omega
  go_region
  generalize min (s.size : Int) 150 = mn
  generalize s.extract 0 mn.toNat = SX
  clear sI s0 hcv3 hC hq9
  have HT4 := Lib.hid (HT2.out.keep hW)
  have HW := Lib.hid (up HB0.out hW)
  clear hW
  go_wp2
  obtain ⟨w9, hw9⟩ : ∃ w9, w9 = W.drew := ⟨_, rfl⟩
  have HT9 := Lib.hid (HT4.out.keep (Below.refl _ _).drew)
  have HW9 := Lib.hid HW.out.drew
  rw [← hw9] at HT9 HW9 ⊢
  clear hw9 HT4 HW
  go_loopw [46] (fun i wr => ∃ k : Nat, k ≤ 3 ∧ i = .int .i64 k ∧ Hid (Below w9.heap.size w9 wr)) (fun i _ => 3 - (intOf i).toNat)
  case atStart => exact ⟨0, by omega, rfl, Below.refl _ _⟩
  case round =>
    obtain ⟨k, hk, rfl, hid⟩ := hrel
    by_cases hlt : k < 3
    · obtain ⟨t, e0⟩ := ix3s SX T U k hlt
      have HC := Lib.hid (parse_any t wr)
      have HR := fun W => Lib.hid (rparse_any t W)
      have HZ := Lib.hid (prsV_sz t.data.toList)
      generalize prsV t.data.toList = r at HC HR HZ
      obtain ⟨y, r⟩ := r
      dsimp only at HC HR HZ
      have c1 : decide ((k : Int) < 3) = true := decide_eq_true (by omega)
      go_wp2_with (first
        | (go_at_call 23; refine HC.out.mono ?_; rintro e1 w5 ⟨v5, rfl, h5, hb5⟩; obtain ⟨A5, c5, rfl⟩ := h5.1.none; have H5 := Lib.hid h5.1; clear h5)
        | (go_at_call 24; refine (HR _).out.mono ?_; rintro e1 w6 ⟨v6, rfl, h6, hb6⟩; obtain ⟨A6, c6, rfl⟩ := h6.none; have H6 := Lib.hid h6; clear h6; obtain ⟨ny, hny⟩ : ∃ ny, ny = y.length := ⟨_, rfl⟩; rw [← hny] at H5 H6 ⊢; clear hny)
        | (go_at_call 17; refine (rsame_any _ _ y y _ (H5.out.keep hb6) H6.out HZ.out.1 HZ.out.2 HZ.out.2).mono ?_; rw [decide_eq_true rfl]; rintro e7 w7 ⟨rfl, hb7⟩))
      exact ⟨⟨k + 1, by omega, by go_num, up hid.out (up hb5 (up hb6 hb7))⟩, by simp [intOf]; omega⟩
    · have c1 : decide ((k : Int) < 3) = false := decide_eq_false (by omega)
      go_wp2_with (go_at_call 20; refine (works_any _ (HT9.out.keep hid.out)).mono ?_; rintro e7 w7 ⟨rfl, hb7⟩)
      go_ret
      exact ⟨rfl, up HW9.out (up hid.out hb7)⟩
set_option maxRecDepth 100000 in
set_option maxHeartbeats 8000000 in
theorem parses_d (s : ByteArray) (u : Value) (ps : List UInt16) (ms : List UInt8) (at_ ch : UInt8) (w : World) (hu : DrR w u ps ms) (ht : Tab w) (hs : s.size ≤ 9223372036854775807) (hs5 : 150 < s.size) (hq0 : (prtL (rowV ps ms)).length = 0) :
    Calls Tryd.prog 5 #[.string s, u, .int .u8 (at_.toNat : Int), .int .u8 (ch.toNat : Int)] w fun e w' => e = .returned (.bool true) ∧ Below w.heap.size w w' := by
  have HT := Lib.hid ht; clear ht
  have Hu := Lib.hid hu
  obtain ⟨A, n, c, B, m, e, rfl, -⟩ := hu
  have hb0 : Below w.heap.size w (w.alloc (.cells #[.slice A n c, .slice B m e] 26)) := below_box _ _
  have hx1 := Box.new w #[.slice A n c, .slice B m e] 26
  have HB0 := Lib.hid hb0
  have HT2 := Lib.hid (HT.out.keep hb0)
  have hc0 := hx1.cell 0 _ rfl
  have hc1 := hx1.cell 1 _ rfl
  have ia := rowV_ok ps ms
  obtain ⟨sa, pa, ca, _⟩ := good_is ia
  have hq9 : (prtL (rowV ps ms)).length ≤ 496 := by
    have h1 := txt_len (rowV ps ms) (rowV ps ms).length ia
    rw [txt_all] at h1
    have := (bad_no ia).1
    omega
  have hC := at_.toNat_lt
  generalize at_.toNat = C at hC ⊢
  go_enter Tryd.func5, Tryd.ntmps5
  go_wp2_with fail
  refine (drow_any _ ps ms _ (Hu.out.keep hb0)).mono ?_
  rintro e3 w3 ⟨v3, rfl, h3, hb3⟩
  generalize w.alloc (.cells #[.slice A n c, .slice B m e] 26) = w2 at HB0 HT2 hb3 ⊢
  generalize rowV ps ms = a at ia sa pa ca h3 hq0 hq9
  obtain ⟨A3, c3, rfl⟩ := h3.form
  have HC := Lib.hid (rprint_any _ a _ h3 sa.1)
  rw [pa, ca] at HC
  have hT : (⟨(prtL a).toArray⟩ : ByteArray).size = (prtL a).length := by simp [ByteArray.size]
  generalize (⟨(prtL a).toArray⟩ : ByteArray) = T at HC hT
  generalize a.length = na at HC h3 ⊢
  obtain ⟨q, hq⟩ : ∃ q, q = (prtL a).length := ⟨_, rfl⟩
  rw [← hq] at hT hq0 hq9
  clear h3 hq hc0 hc1 hx1 hb0 Hu HT ia sa pa ca
  go_wp2_with fail
  refine HC.out.mono ?_
  rintro e4 w4 ⟨rfl, hb4⟩
  have hb34 := up hb3 hb4
  clear HC hb3 hb4
  obtain ⟨cq, w5, hcv, hcq, hrow, hb5, hsz5⟩ := Col.run_row (P := Tryd.prog) w4 9 24 T Tryd.underlying9 Tryd.underlying24 Tryd.underlying5
  rw [hT] at hcv hcq
  have hTl : T.data.toList.length = q := by rw [← hT]; simp
  have hW5 := up hb34 hb5
  have hG := hb34.size
  generalize w4.heap.size = G at hcv hrow hG
  have hTz : (T.size : Int) = (q : Int) := by omega
  subst hq0
  have HB := Lib.hid hW5
  have Hrow := Lib.hid hrow
  clear hrow hW5
  go_wp2_with fail
  have hW := HB.out
  have hrW := Hrow.out
  have hMl : T.data.toList.length = 0 := hTl
  generalize w5 = W at hW hrW ⊢
  generalize T.data.toList = M at hrW hMl
  clear hcv Hrow HB hb5 hsz5 hb34 hTl
  have hcv3 : (convert 24 9 (.slice (some ⟨G, 0, none⟩) 0 cq)).run Tryd.prog W.drew = .ok (.string ⟨M.toArray⟩) W.drew := Col.run_str (P := Tryd.prog) W.drew 24 9 5 ⟨G, 0, none⟩ 0 cq M hMl Tryd.underlying24 Tryd.underlying5 Tryd.underlying9 (Col.Row.rd (hrW.keep (Below.refl _ _).drew))
  generalize (⟨M.toArray⟩ : ByteArray) = U at hcv3
  clear hrW hMl
  have sI : (150 : Int) < (s.size : Int) := by omega
  have sJ : (150 : Int) ≤ (s.size : Int) := by omega
  have s0 : (0 : Int) ≤ s.size := by omega
  go_region
  generalize min (s.size : Int) 150 = mn
  generalize s.extract 0 mn.toNat = SX
  clear sI s0 hcv3 hC hq9
  have HT4 := Lib.hid (HT2.out.keep hW)
  have HW := Lib.hid (up HB0.out hW)
  clear hW
  go_wp2
  obtain ⟨w9, hw9⟩ : ∃ w9, w9 = W.drew := ⟨_, rfl⟩
  have HT9 := Lib.hid (HT4.out.keep (Below.refl _ _).drew)
  have HW9 := Lib.hid HW.out.drew
  rw [← hw9] at HT9 HW9 ⊢
  clear hw9 HT4 HW
  go_loopw [46] (fun i wr => ∃ k : Nat, k ≤ 3 ∧ i = .int .i64 k ∧ Hid (Below w9.heap.size w9 wr)) (fun i _ => 3 - (intOf i).toNat)
  case atStart => exact ⟨0, by omega, rfl, Below.refl _ _⟩
  case round =>
    obtain ⟨k, hk, rfl, hid⟩ := hrel
    by_cases hlt : k < 3
    · obtain ⟨t, e0⟩ := ix3s SX T U k hlt
      have HC := Lib.hid (parse_any t wr)
      have HR := fun W => Lib.hid (rparse_any t W)
      have HZ := Lib.hid (prsV_sz t.data.toList)
      generalize prsV t.data.toList = r at HC HR HZ
      obtain ⟨y, r⟩ := r
      dsimp only at HC HR HZ
      have c1 : decide ((k : Int) < 3) = true := decide_eq_true (by omega)
      go_wp2_with (first
        | (go_at_call 23; refine HC.out.mono ?_; rintro e1 w5 ⟨v5, rfl, h5, hb5⟩; obtain ⟨A5, c5, rfl⟩ := h5.1.none; have H5 := Lib.hid h5.1; clear h5)
        | (go_at_call 24; refine (HR _).out.mono ?_; rintro e1 w6 ⟨v6, rfl, h6, hb6⟩; obtain ⟨A6, c6, rfl⟩ := h6.none; have H6 := Lib.hid h6; clear h6; obtain ⟨ny, hny⟩ : ∃ ny, ny = y.length := ⟨_, rfl⟩; rw [← hny] at H5 H6 ⊢; clear hny)
        | (go_at_call 17; refine (rsame_any _ _ y y _ (H5.out.keep hb6) H6.out HZ.out.1 HZ.out.2 HZ.out.2).mono ?_; rw [decide_eq_true rfl]; rintro e7 w7 ⟨rfl, hb7⟩))
      exact ⟨⟨k + 1, by omega, by go_num, up hid.out (up hb5 (up hb6 hb7))⟩, by simp [intOf]; omega⟩
    · have c1 : decide ((k : Int) < 3) = false := decide_eq_false (by omega)
      go_wp2_with (go_at_call 20; refine (works_any _ (HT9.out.keep hid.out)).mono ?_; rintro e7 w7 ⟨rfl, hb7⟩)
      go_ret
      exact ⟨rfl, up HW9.out (up hid.out hb7)⟩
theorem parses_any (s : ByteArray) (u : Value) (ps : List UInt16) (ms : List UInt8) (at_ ch : UInt8) (w : World) (hu : DrR w u ps ms) (ht : Tab w) (hs : s.size ≤ 9223372036854775807) :
    Calls Tryd.prog 5 #[.string s, u, .int .u8 (at_.toNat : Int), .int .u8 (ch.toNat : Int)] w fun e w' => e = .returned (.bool true) ∧ Below w.heap.size w w' := by
  by_cases h5 : s.size ≤ 150
  · by_cases h0 : (prtL (rowV ps ms)).length = 0
    · exact parses_c s u ps ms at_ ch w hu ht hs h5 h0
    · exact parses_a s u ps ms at_ ch w hu ht hs h5 (by omega)
  · by_cases h0 : (prtL (rowV ps ms)).length = 0
    · exact parses_d s u ps ms at_ ch w hu ht hs (by omega) h0
    · exact parses_b s u ps ms at_ ch w hu ht hs (by omega) (by omega)
end Go.Proofs.YtelglcchcpnfbaaDoor.Par
