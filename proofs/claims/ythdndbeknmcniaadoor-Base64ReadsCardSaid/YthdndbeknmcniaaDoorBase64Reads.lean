/-
  The walk of the law Base64Reads.
-/
import Derived.Test.YthdndbeknmcniaaDoorB64S
import Derived.Deep.CutBlock
import Derived.Deep.DeepCutAuto
namespace Go.Proofs.YthdndbeknmcniaaDoor.B64
open Go.RowKit Utf

theorem get_some {α : Type} (l : List α) (k : Nat) (h : k < l.length) : ∃ x, l[k]? = some x := ⟨l[k], by simp⟩
theorem add_block (a : Addr) (k : Nat) : (a.add k).block = a.block := by unfold Addr.add; split <;> rfl
theorem get_take {α : Type} (l : List α) (k : Nat) (x : α) (h : l[k]? = some x) : l.take (k + 1) = l.take k ++ [x] := by
  rw [List.take_add_one, h]; rfl
/-- the character that the law takes for a byte -/
def sg (b : UInt8) : UInt8 := ch (b.toNat % 64)
theorem alpha_run8 (v : Nat) (h : v < 64) (w : World) : (Instr.index 9 (.string ⟨#[65, 66, 67, 68, 69, 70, 71, 72, 73, 74, 75, 76, 77, 78, 79, 80, 81, 82, 83, 84, 85, 86, 87, 88, 89, 90, 97, 98, 99, 100, 101, 102, 103, 104, 105, 106, 107, 108, 109, 110, 111, 112, 113, 114, 115, 116, 117, 118, 119, 120, 121, 122, 48, 49, 50, 51, 52, 53, 54, 55, 56, 57, 43, 47]⟩) (.int .u8 (v : Int))).run Tryd.prog w = .ok (.int .u8 ((ch v).toNat : Int)) w := by
  have hc := ch_get v h
  have h2 : v < alpha.length := (List.getElem?_eq_some_iff.1 hc).1
  have h3 : v < alphaS.size := h2
  have e : alpha[v] = ch v := (List.getElem?_eq_some_iff.1 hc).2
  show (Instr.index 9 (.string alphaS) (.int .u8 (v : Int))).run Tryd.prog w = _
  rw [run_index_string w 9 alphaS .u8 v Tryd.underlying9, dif_pos ⟨by omega, by omega⟩]
  rw [← e]
  rfl
theorem ix6 (a b c d e f : ByteArray) (P : ByteArray → Prop) (ha : P a) (hb : P b) (hc : P c) (hd : P d) (he : P e) (hf : P f) (k : Nat) (hk : k < 6) : ∃ S : ByteArray, P S ∧ ∀ W, (Instr.index 29 (.agg #[.string a, .string b, .string c, .string d, .string e, .string f]) (.int .i64 (k : Int))).run Tryd.prog W = .ok (.string S) W := by
  rcases (show k = 0 ∨ k = 1 ∨ k = 2 ∨ k = 3 ∨ k = 4 ∨ k = 5 by omega) with rfl | rfl | rfl | rfl | rfl | rfl
  · exact ⟨a, ha, fun _ => by kernel_rfl⟩
  · exact ⟨b, hb, fun _ => by kernel_rfl⟩
  · exact ⟨c, hc, fun _ => by kernel_rfl⟩
  · exact ⟨d, hd, fun _ => by kernel_rfl⟩
  · exact ⟨e, he, fun _ => by kernel_rfl⟩
  · exact ⟨f, hf, fun _ => by kernel_rfl⟩
theorem decV_form (l : List UInt8) : ∃ (S : ByteArray) (e : Int), decV' l = .tuple #[.string S, .int .i64 e] := by
  unfold decV'
  split
  · exact ⟨_, _, rfl⟩
  · exact ⟨_, _, rfl⟩

set_option maxRecDepth 100000 in
set_option maxHeartbeats 8000000 in
theorem reads_any (s : ByteArray) (A : Option Addr) (n c : Nat) (bs : List UInt8) (p z y : UInt8) (w : World) (hs : s.size ≤ 9223372036854775807) (hn : bs.length = n) (hA : Rd w A (cB bs)) :
    Calls Tryd.prog 4 #[.string s, .slice A n c, .int .u8 (p.toNat : Int), .int .u8 (z.toNat : Int), .int .u8 (y.toNat : Int)] w fun e w' => e = .returned (.bool true) ∧ Below w.heap.size w w' := by
  have HA := Lib.hid hA; clear hA
  have Hn := Lib.hid hn; clear hn
  have hp0 : (p.toNat : Int) < 256 := by have := p.toNat_lt; omega
  have hz0 : (z.toNat : Int) < 256 := by have := z.toNat_lt; omega
  have hy00 : (y.toNat : Int) < 256 := by have := y.toNat_lt; omega
  obtain ⟨t0, hi0, hy0, hy1, hy2⟩ := info_parts infoB
  obtain ⟨q, hqe⟩ : ∃ q, q = s.extract 0 (min (s.size : Int) 200).toNat := ⟨_, rfl⟩
  have hq : q.size ≤ 200 := by rw [hqe, ByteArray.size_extract]; omega
  obtain ⟨T, hT⟩ : ∃ T : ByteArray, T = ⟨(encL q.data.toList).toArray⟩ := ⟨_, rfl⟩
  have hTs : T.size ≤ 300 := by
    have : q.data.toList.length = q.size := by simp
    rw [hT, Lib.size_mk, encL_len, this]; omega
  have HE := Lib.hid (fun W => rencode_any q W (by omega))
  rw [← hT] at HE
  have HQ := Lib.hid hqe
  clear hT hqe
  go_enter Tryd.func4, Tryd.ntmps4
  go_upto_if 36 with (go_at_call 9; rw [← HQ.out]; refine (HE.out _).mono ?_; rintro e w1 ⟨rfl, hb1⟩; obtain ⟨c5, w5, hrun, hc5, hrow, hb5, hz5⟩ := Col.run_row (P := Tryd.prog) w1 9 28 T Tryd.underlying9 Tryd.underlying28 Tryd.underlying5; have HB1 := Lib.hid hb1; have HB5 := Lib.hid hb5; have HROW := Lib.hid hrow; clear hb1 hb5 hrow)
  have hTl : T.data.toList.length = T.size := by simp
  go_cut [] from 37 to 44 (fun wx => Hid (∃ b9 : List UInt8, b9.length = T.size ∧ Col.Row wx w1.heap.size b9 ∧ Below w1.heap.size w1 wx))
  case first =>
    by_cases h0 : 0 < T.size
    · have h1 : (0 : Int) < T.size := by omega
      obtain ⟨j, hj⟩ : ∃ j : Nat, j = p.toNat % T.size := ⟨_, rfl⟩
      have hjl : j < T.size := by rw [hj]; exact Nat.mod_lt _ h0
      have hj1 : (p.toNat : Int) % (T.size : Int) = (j : Int) := by rw [hj]; exact (Int.natCast_emod _ _).symm
      have hj2 : (p.toNat : Int).tmod (T.size : Int) = (j : Int) := by rw [Int.tmod_eq_emod_of_nonneg (by omega)]; exact hj1
      have j1 : (0 : Int) ≤ j := by omega
      have j2 : (j : Int) < T.size := by omega
      obtain ⟨b0, hb0⟩ := get_some T.data.toList j (by omega)
      have hcell := HROW.out.cell j b0 hb0
      have hfro := HROW.out.frozen j (by omega)
      have hlt := HROW.out.lt
      have HS := Lib.hid (HROW.out.set j z)
      have HBL := Lib.hid (HB5.out.setCell (p := ⟨w1.heap.size, j, none⟩) (Nat.le_refl _) (.int .u8 (z.toNat : Int)))
      clear hj hb0
      go_wp2_with fail
      go_meet
      case rel => exact ⟨_, by rw [List.length_set]; exact hTl, HS.out, HBL.out⟩
    · have h1 : decide ((0 : Int) < T.size) = false := decide_eq_false (by omega)
      go_wp2_with fail
      go_meet
      case rel => exact ⟨_, hTl, HROW.out, HB5.out⟩
  case rest =>
    obtain ⟨b9, hb9, hrow9, hbel9⟩ := hcut.out
    have HR9 := Lib.hid hrow9
    have HB9 := Lib.hid hbel9
    clear hcut hrow9 hbel9 hrun HB5 HROW hTl
    obtain ⟨wb, hwb⟩ : ∃ wb, wb = wc := ⟨_, rfl⟩
    subst hwb
    go_upto_block 0 with fail
    go_cut [14, 15] from 45 to 63 (fun v _ wx => Hid (∃ L : List UInt8, L.length ≤ 50 ∧ wx.ownsRow wb.heap.size 5 1 v L.length (cB L) ∧ Below wb.heap.size wb wx))
    case first =>
      go_wp2_with fail
      go_loopw [14, 15] (fun ov iv wr => ∃ i : Nat, i ≤ n ∧ i ≤ 50 ∧ iv = .int .i64 i ∧ Hid (wr.ownsRow wb.heap.size 5 1 ov i (cB ((bs.take i).map sg)) ∧ Below wb.heap.size wb wr)) (fun _ iv _ => 50 - (intOf iv).toNat)
      case atStart => exact ⟨0, Nat.zero_le _, by omega, rfl, World.ownsRow_nil _ _ _ _, Below.refl _ _⟩
      case round =>
        obtain ⟨i, hin, hi50, rfl, hid⟩ := hrel
        obtain ⟨AO, co, hsh, _, _⟩ := own_slice hid.out.1
        subst hsh
        by_cases hlt : i < n
        · by_cases hlt2 : i < 50
          · obtain ⟨b, hb⟩ := get_some bs i (by rw [Hn.out]; exact hlt)
            obtain ⟨bd, rfl, hbl, hcb⟩ := HA.out i _ (cB_at bs i b hb)
            have hW : Below w.heap.size w wb := HB1.out.trans (HB9.out.mono HB1.out.size)
            have hcb1 := ((hW.trans (hid.out.2.mono hW.size)).cell (p := bd.add i) (by rw [add_block]; exact hbl)).trans hcb
            obtain ⟨X, hX⟩ : ∃ X, X = b.toNat := ⟨_, rfl⟩
            obtain ⟨M, hM⟩ : ∃ M, M = X % 64 := ⟨_, rfl⟩
            have hM2 : M < 64 := by omega
            have em : ((X : Int) % 64) = (M : Int) := by omega
            have hsg := alpha_run8 M hM2
            have Hs := Lib.hid (show cB ((bs.take (i + 1)).map sg) = cB ((bs.take i).map sg) ++ [.int .u8 ((ch M).toNat : Int)] by
              rw [get_take bs i b hb, List.map_append, cB_append]
              congr 1
              show [Value.int .u8 ((sg b).toNat : Int)] = _
              rw [sg, ← hX, ← hM])
            rw [← hX] at hcb1
            clear hcb hb hX hM hW
            generalize ch M = cc at hsg Hs
            have c1 : decide ((i : Int) < (n : Int)) = true := decide_eq_true (by omega)
            have c2 : decide ((i : Int) < 50) = true := decide_eq_true (by omega)
            have i1 : (0 : Int) ≤ (i : Int) := by omega
            have i2 : (i : Int) < (n : Int) := by omega
            have hsz := hid.out.2.size
            go_wp2_with (at_builtin; refine wpList_appB _ rfl _ _ 28 rfl wb.heap.size 5 t0 _ 1 Tryd.underlying28 hi0 hy0 hy1 hy2 rfl _ i (cB ((bs.take i).map sg)) rfl (own_below hid.out.1 (below_box _ _)) (some ⟨wr.heap.size, 0, none⟩) 1 1 [.int .u8 (cc.toNat : Int)] rfl rfl (Rd.one _ _ _) (by intro u hu; simp at hu; subst hu; rfl) (by omega) (by decide) (by rw [World.size_alloc]; omega) ?_; intro v' w' hown hgrow; obtain ⟨A2, c2, hsh2, _, _⟩ := own_slice hown; subst hsh2)
            go_roundw
            case rel => exact ⟨i + 1, by omega, by omega, by go_num, by rw [Hs.out]; exact hown, (hid.out.2.trans ((below_box _ _).mono hid.out.2.size)).trans hgrow⟩
            case measure => simp [intOf]; omega
          · have c1 : decide ((i : Int) < (n : Int)) = true := decide_eq_true (by omega)
            have c2 : decide ((i : Int) < 50) = false := decide_eq_false (by omega)
            have HL := Lib.hid (show ((bs.take i).map sg).length = i by rw [List.length_map, List.length_take, Hn.out]; omega)
            go_wp2_with fail
            go_meet
            case rel => exact ⟨(bs.take i).map sg, by rw [HL.out]; exact hi50, by rw [HL.out]; exact hid.out.1, hid.out.2⟩
        · have c1 : decide ((i : Int) < (n : Int)) = false := decide_eq_false (by omega)
          have HL := Lib.hid (show ((bs.take i).map sg).length = i by rw [List.length_map, List.length_take, Hn.out]; omega)
          go_wp2_with fail
          go_meet
          case rel => exact ⟨(bs.take i).map sg, by rw [HL.out]; exact hi50, by rw [HL.out]; exact hid.out.1, hid.out.2⟩
    case rest =>
      obtain ⟨L9, hL9, hown9, hbl9⟩ := hcut.out
      clear hcut
      obtain ⟨AO, co, rfl, _, _⟩ := own_slice hown9
      have HG9 := Lib.hid (HB1.out.trans ((HB9.out.trans (hbl9.mono HB9.out.size)).mono HB1.out.size))
      have hcvU : (convert 28 9 (.slice (some ⟨w1.heap.size, 0, none⟩) T.size c5)).run Tryd.prog wc.drew = .ok (.string ⟨b9.toArray⟩) wc.drew :=
        Col.run_str wc.drew 28 9 5 ⟨w1.heap.size, 0, none⟩ T.size c5 b9 hb9 Tryd.underlying28 Tryd.underlying5 Tryd.underlying9 (((HR9.out.keep hbl9).rd).below ((Below.refl _ _).drew))
      have hcvV := str_back (w := wc.drew) hown9.drew
      obtain ⟨U, hU⟩ : ∃ U : ByteArray, U = ⟨b9.toArray⟩ := ⟨_, rfl⟩
      obtain ⟨V, hV⟩ : ∃ V : ByteArray, V = ⟨L9.toArray⟩ := ⟨_, rfl⟩
      rw [← hU] at hcvU
      rw [← hV] at hcvV
      have hUs : U.size ≤ 300 := by rw [hU, Lib.size_mk, hb9]; exact hTs
      have hVs : V.size ≤ 50 := by rw [hV, Lib.size_mk]; exact hL9
      generalize L9.length = l9 at hcvV hL9 ⊢
      clear hU hV hown9 hbl9 hb9 HR9 HB9 HB1
      obtain ⟨k, hk⟩ : ∃ k : Nat, k = p.toNat % (T.size + 1) := ⟨_, rfl⟩
      have hkl : k < T.size + 1 := by rw [hk]; exact Nat.mod_lt _ (by omega)
      have hk1 : (p.toNat : Int) % ((T.size : Int) + 1) = (k : Int) := by rw [hk]; exact (Int.natCast_emod p.toNat (T.size + 1)).symm
      have hk2 : (p.toNat : Int).tmod ((T.size : Int) + 1) = (k : Int) := by rw [Int.tmod_eq_emod_of_nonneg (by omega)]; exact hk1
      have k1 : (0 : Int) ≤ k := by omega
      have k2 : (k : Int) ≤ T.size := by omega
      obtain ⟨m5, hm5⟩ : ∃ m : Nat, m = y.toNat % 5 := ⟨_, rfl⟩
      obtain ⟨m4, hm4⟩ : ∃ m : Nat, m = y.toNat % 4 := ⟨_, rfl⟩
      have h51 : (y.toNat : Int) % 5 = (m5 : Int) := by omega
      have h52 : (y.toNat : Int).tmod 5 = (m5 : Int) := by rw [Int.tmod_eq_emod_of_nonneg (by omega)]; exact h51
      have h41 : (y.toNat : Int) % 4 = (m4 : Int) := by omega
      have h42 : (y.toNat : Int).tmod 4 = (m4 : Int) := by rw [Int.tmod_eq_emod_of_nonneg (by omega)]; exact h41
      have h53 : (0 : Int) ≤ m5 := by omega
      have h54 : (m5 : Int) ≤ 4 := by omega
      have h43 : (0 : Int) ≤ m4 := by omega
      have h44 : (m4 : Int) ≤ 4 := by omega
      have wd : IntKind.i64.wrap ((T.size : Int) + 1) = (T.size : Int) + 1 := IntWalk.i64_in _ (by omega)
      have wp : IntKind.i64.wrap (p.toNat : Int) = (p.toNat : Int) := IntWalk.i64_in _ (by omega)
      have wk : IntKind.i64.wrap (k : Int) = (k : Int) := IntWalk.i64_in _ (by omega)
      have hne : ¬ ((T.size : Int) + 1 = 0) := by omega
      have hl5 : ¬ 9223372036854775807 < T.size + min m5 4 := by omega
      have hl4 : ¬ 9223372036854775807 < V.size + min m4 4 := by omega
      clear hk hm5 hm4
      go_wp2_with fail
      go_region_held3 (fun W => (convert 28 9 (.slice (some ⟨w1.heap.size, 0, none⟩) T.size c5)).run Tryd.prog W = .ok (.string U) W ∧ (convert 28 9 (.slice AO l9 co)).run Tryd.prog W = .ok (.string V) W) (first | (with_reducible exact ⟨hcvU, hcvV⟩)) (fail)
      rename_i K5 hK5 x5
      show K5 _ _
      refine hK5 _ _ ?_
      clear hK5 x5 hcvU hcvV
      have HD : Hid (Below w.heap.size w wc.drew) := HG9.out.drew
      generalize wc.drew = wd0 at HD ⊢
      obtain ⟨X3, hX3⟩ : ∃ X, X = T.extract 0 k := ⟨_, rfl⟩
      obtain ⟨X4, hX4⟩ : ∃ X, X = T ++ (⟨#[61, 61, 61, 61]⟩ : ByteArray).extract 0 m5 := ⟨_, rfl⟩
      obtain ⟨X5, hX5⟩ : ∃ X, X = V ++ (⟨#[61, 61, 61, 61]⟩ : ByteArray).extract 0 m4 := ⟨_, rfl⟩
      have z3 : X3.size ≤ 8192 := by rw [hX3, ByteArray.size_extract]; omega
      have z4 : X4.size ≤ 8192 := by
        rw [hX4, ByteArray.size_append, ByteArray.size_extract]
        show T.size + (min m5 4 - 0) ≤ 8192
        omega
      have z5 : X5.size ≤ 8192 := by
        rw [hX5, ByteArray.size_append, ByteArray.size_extract]
        show V.size + (min m4 4 - 0) ≤ 8192
        omega
      rw [← hX3, ← hX4, ← hX5]
      have HIX := Lib.hid (fun k (hk : k < 6) => ix6 q T U X3 X4 X5 (fun S => S.size ≤ 8192) (by omega) (by omega) (by omega) z3 z4 z5 k hk)
      clear hX3 hX4 hX5 z3 z4 z5 HG9
      go_wp2_with fail
      go_loopw [88] (fun i wr => ∃ k : Nat, k ≤ 6 ∧ i = .int .i64 k ∧ Hid (Below w.heap.size w wr)) (fun i _ => 6 - (intOf i).toNat)
      case atStart => exact ⟨0, by omega, rfl, HD⟩
      case round =>
        clear HD
        obtain ⟨k9, hk9, rfl, hid⟩ := hrel
        by_cases hk2 : k9 < 6
        · obtain ⟨S, hS, hix⟩ := HIX.out k9 hk2
          have HD1 := Lib.hid (fun W => decode_any S W hS)
          have HD2 := Lib.hid (fun W => rdecode_any S W hS)
          obtain ⟨a, e, hae⟩ := decV_form S.data.toList
          rw [hae] at HD1 HD2
          have h5 : (a.toList == a.toList) = true := by simp
          have h6 : (e == e) = true := by simp
          have hG := hid.out
          clear hae hS hid HIX
          go_wp2_with (first
            | (go_at_call 13; refine (HD1.out _).mono ?_; rintro e9 w7 ⟨rfl, hb7⟩; have hG := up hG hb7; clear hb7)
            | (go_at_call 14; refine (HD2.out _).mono ?_; rintro e9 w8 ⟨rfl, hb8⟩; have hG := up hG hb8; clear hb8))
          refine ⟨⟨k9 + 1, by omega, by go_num, hG⟩, ?_⟩
          show 6 - ((k9 : Int) + 1).toNat < 6 - (k9 : Int).toNat
          omega
        · obtain rfl : k9 = 6 := by omega
          go_wp2_with (go_at_call 12; refine (works_any _).mono ?_; rintro e7 w7 ⟨rfl, hb7⟩)
          go_ret
          exact ⟨rfl, up hid.out hb7⟩
end Go.Proofs.YthdndbeknmcniaaDoor.B64
