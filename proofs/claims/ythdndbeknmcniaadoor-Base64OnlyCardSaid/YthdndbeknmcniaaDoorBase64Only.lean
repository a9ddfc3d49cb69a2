/-
  The walk of the law Base64Only.
-/
import Derived.Test.YthdndbeknmcniaaDoorB64W
namespace Go.Proofs.YthdndbeknmcniaaDoor.B64
open Go.RowKit Utf

theorem get_some {α : Type} (l : List α) (k : Nat) (h : k < l.length) : ∃ x, l[k]? = some x := ⟨l[k], by simp⟩
theorem add_block (a : Addr) (k : Nat) : (a.add k).block = a.block := by unfold Addr.add; split <;> rfl
theorem get_take {α : Type} (l : List α) (k : Nat) (x : α) (h : l[k]? = some x) : l.take (k + 1) = l.take k ++ [x] := by
  rw [List.take_add_one, h]; rfl
/-- the character that the law takes for a byte -/
def sg (b : UInt8) : UInt8 := ch (b.toNat % 64)
theorem alpha_run8 (v : Nat) (h : v < 64) (w : World) : (Instr.index 9 (.string ⟨#[65, 66, 67, 68, 69, 70, 71, 72, 73, 74, 75, 76, 77, 78, 79, 80, 81, 82, 83, 84, 85, 86, 87, 88, 89, 90, 97, 98, 99, 100, 101, 102, 103, 104, 105, 106, 107, 108, 109, 110, 111, 112, 113, 114, 115, 116, 117, 118, 119, 120, 121, 122, 48, 49, 50, 51, 52, 53, 54, 55, 56, 57, 43, 47]⟩) (.int .u8 (v : Int))).run Tryd.prog w = .ok (.int .u8 ((ch v).toNat : Int)) w := by
  have hc := ch_get v h
  have h2 : v < alpha.length := (List.getElem?_eq_some_iff.1 hc).1
  have h3 : v < alphaS.size := h2
  have e : alpha[v] = ch v := (List.getElem?_eq_some_iff.1 hc).2
  show (Instr.index 9 (.string alphaS) (.int .u8 (v : Int))).run Tryd.prog w = _
  rw [run_index_string w 9 alphaS .u8 v Tryd.underlying9, dif_pos ⟨by omega, by omega⟩]
  rw [← e]
  rfl
theorem rep_any (c : UInt8) (n : Nat) (hn : n ≤ 100000) (W : World) : Calls Tryd.prog 16 #[.string ⟨#[c]⟩, .int .i64 (n : Int)] W fun e w' => e = .returned (.string ⟨(List.replicate n c).toArray⟩) ∧ Below W.heap.size W w' := by
  have := Tryd.strings_Repeat ⟨#[c]⟩ n W (by omega) (by show 1 * n ≤ _; omega)
  have e : Lib.repeatL (⟨#[c]⟩ : ByteArray).data.toList n = List.replicate n c := repeat_one c n
  rw [e] at this
  exact this
theorem ixT (a b : ByteArray) (k : Nat) (hk : k < 2) : ∃ S : ByteArray, (S = a ∨ S = b) ∧ ∀ W, (Instr.index 34 (.agg #[.string a, .string b]) (.int .i64 (k : Int))).run Tryd.prog W = .ok (.string S) W := by
  rcases (show k = 0 ∨ k = 1 by omega) with rfl | rfl
  · exact ⟨a, .inl rfl, fun _ => by kernel_rfl⟩
  · exact ⟨b, .inr rfl, fun _ => by kernel_rfl⟩
theorem trimR (t : ByteArray) (l : List UInt8) (h : t = ⟨(encL l).toArray⟩) (W : World) (hs : t.size ≤ 9000) : Calls Tryd.prog 15 #[.string t, .string ⟨#[61]⟩] W fun e w' => e = .returned (.string ⟨(bareL l).toArray⟩) ∧ w' = W := by
  have := Tryd.strings_TrimRight_one t 61 (by decide) W (by omega)
  have e : Lib.trimRightB t.data.toList 61 = bareL l := by rw [h]; exact trim_enc l
  rw [e] at this
  exact this
theorem dec_size (t x : List UInt8) (h : decL t = some x) : x.length ≤ t.length := by
  rcases decL_only t x h with e | e
  · rw [e, bare_len]; omega
  · rw [e, encL_len]; omega

set_option maxRecDepth 100000 in
set_option maxHeartbeats 8000000 in
theorem only_any (s : ByteArray) (A : Option Addr) (n c : Nat) (bs : List UInt8) (z : UInt8) (w : World) (hs : s.size ≤ 9223372036854775807) (hn : bs.length = n) (hA : Rd w A (cB bs)) :
    Calls Tryd.prog 6 #[.string s, .slice A n c, .int .u8 (z.toNat : Int)] w fun e w' => e = .returned (.bool true) ∧ Below w.heap.size w w' := by
  have HA := Lib.hid hA; clear hA
  have Hn := Lib.hid hn; clear hn
  have hz0 : (z.toNat : Int) < 256 := by have := z.toNat_lt; omega
  obtain ⟨t0, hi0, hy0, hy1, hy2⟩ := info_parts infoB
  go_enter Tryd.func6, Tryd.ntmps6
  go_wp2_with fail
  refine (works_any _).mono ?_
  rintro e1 w1 ⟨rfl, hb1⟩
  have HB1 := Lib.hid hb1; clear hb1
  go_wp2_with fail
  go_loopw [7, 8] (fun ov iv wr => ∃ i : Nat, i ≤ n ∧ i ≤ 60 ∧ iv = .int .i64 i ∧ Hid (wr.ownsRow w1.heap.size 5 1 ov i (cB ((bs.take i).map sg)) ∧ Below w1.heap.size w1 wr)) (fun _ iv _ => 60 - (intOf iv).toNat)
  case atStart => exact ⟨0, Nat.zero_le _, by omega, rfl, World.ownsRow_nil _ _ _ _, Below.refl _ _⟩
  case round =>
    obtain ⟨i, hin, hi60, rfl, hid⟩ := hrel
    obtain ⟨AO, co, hsh, _, _⟩ := own_slice hid.out.1
    subst hsh
    by_cases hlt : i < n
    · by_cases hlt2 : i < 60
      · obtain ⟨b, hb⟩ := get_some bs i (by rw [Hn.out]; exact hlt)
        obtain ⟨bd, rfl, hbl, hcb⟩ := HA.out i _ (cB_at bs i b hb)
        have hcb1 := ((up HB1.out hid.out.2).cell (p := bd.add i) (by rw [add_block]; exact hbl)).trans hcb
        obtain ⟨X, hX⟩ : ∃ X, X = b.toNat := ⟨_, rfl⟩
        obtain ⟨M, hM⟩ : ∃ M, M = X % 64 := ⟨_, rfl⟩
        have hM2 : M < 64 := by omega
        have em : ((X : Int) % 64) = (M : Int) := by omega
        have hsg := alpha_run8 M hM2
        have Hs := Lib.hid (show cB ((bs.take (i + 1)).map sg) = cB ((bs.take i).map sg) ++ [.int .u8 ((ch M).toNat : Int)] by
          rw [get_take bs i b hb, List.map_append, cB_append]
          congr 1
          show [Value.int .u8 ((sg b).toNat : Int)] = _
          rw [sg, ← hX, ← hM])
        rw [← hX] at hcb1
        clear hcb hb hX hM
        generalize ch M = cc at hsg Hs
        have c1 : decide ((i : Int) < (n : Int)) = true := decide_eq_true (by omega)
        have c2 : decide ((i : Int) < 60) = true := decide_eq_true (by omega)
        have i1 : (0 : Int) ≤ (i : Int) := by omega
        have i2 : (i : Int) < (n : Int) := by omega
        have hsz := hid.out.2.size
        go_wp2_with (at_builtin; refine wpList_appB _ rfl _ _ 28 rfl w1.heap.size 5 t0 _ 1 Tryd.underlying28 hi0 hy0 hy1 hy2 rfl _ i (cB ((bs.take i).map sg)) rfl (own_below hid.out.1 (below_box _ _)) (some ⟨wr.heap.size, 0, none⟩) 1 1 [.int .u8 (cc.toNat : Int)] rfl rfl (Rd.one _ _ _) (by intro u hu; simp at hu; subst hu; rfl) (by omega) (by decide) (by rw [World.size_alloc]; omega) ?_; intro v' w' hown hgrow; obtain ⟨A2, c2, hsh2, _, _⟩ := own_slice hown; subst hsh2)
        go_roundw
        case rel => exact ⟨i + 1, by omega, by omega, by go_num, by rw [Hs.out]; exact hown, (hid.out.2.trans ((below_box _ _).mono hid.out.2.size)).trans hgrow⟩
        case measure => simp [intOf]; omega
      · have c1 : decide ((i : Int) < (n : Int)) = true := decide_eq_true (by omega)
        have c2 : decide ((i : Int) < 60) = false := decide_eq_false (by omega)
        have hcv := str_back (w := wr.drew) hid.out.1.drew
        have hLl : ((bs.take i).map sg).length ≤ 60 := by rw [List.length_map, List.length_take]; omega
        obtain ⟨r, hr⟩ : ∃ r : Nat, r = z.toNat % 4 := ⟨_, rfl⟩
        have er : ((z.toNat : Int) % 4) = (r : Int) := by omega
        have hr4 : r < 4 := by omega
        have ER := Lib.hid (show IntKind.i64.wrap ((z.toNat : Int).tmod 4) = (r : Int) by
          rw [Int.tmod_eq_emod_of_nonneg (by omega), er]
          exact IntWalk.i64_in _ (by omega))
        obtain ⟨B1, hB1⟩ : ∃ B : ByteArray, B = ⟨((bs.take i).map sg).toArray⟩ := ⟨_, rfl⟩
        have hB1s : B1.size ≤ 60 := by rw [hB1, Lib.size_mk]; exact hLl
        rw [← hB1] at hcv
        obtain ⟨R, hR⟩ : ∃ R : ByteArray, R = ⟨(List.replicate r 61).toArray⟩ := ⟨_, rfl⟩
        have hRs : R.size ≤ 3 := by rw [hR, Lib.size_mk, List.length_replicate]; omega
        have HRp := Lib.hid (fun W => rep_any 61 r (by omega) W)
        rw [← hR] at HRp
        have hl9 : ¬ 9223372036854775807 < B1.size + R.size := by omega
        have HOw := Lib.hid hid.out.1.drew
        have HBw := Lib.hid hid.out.2.drew
        have HB1e := Lib.hid hB1
        clear hB1 hR hr hLl
        generalize (bs.take i).map sg = L9 at HOw HB1e hid
        obtain ⟨m, hm⟩ : ∃ m : Nat, m = min s.size 200 := ⟨_, rfl⟩
        have m1 : min (s.size : Int) 200 = (m : Int) := by omega
        have m2 : (if (200 : Int) < (s.size : Int) then (200 : Int) else (s.size : Int)) = (m : Int) := by split <;> omega
        have m3 : (0 : Int) ≤ m := by omega
        have m4 : (m : Int) ≤ s.size := by omega
        have m5 : m ≤ 200 := by omega
        clear hm
        go_wp2_with fail
        go_region_held3 (fun W => (convert 28 9 (.slice AO i co)).run Tryd.prog W = .ok (.string B1) W) (first | (with_reducible exact hcv) | (with_reducible exact hcv5)) ((go_at_call 16; rw [ER.out]; refine (HRp.out _).mono ?_; rintro e w5 ⟨rfl, hb5⟩; have hcv5 := str_back (own_below HOw.out hb5); rw [← HB1e.out] at hcv5))
        all_goals
          rename_i K5 hK5 x5
          show K5 _ _
          refine hK5 _ _ ?_
          clear hK5
          have HG5 := Lib.hid (up HB1.out (HBw.out.trans (hb5.mono HBw.out.size)))
          obtain ⟨q, hqe⟩ : ∃ q, q = s.extract 0 m := ⟨_, rfl⟩
          have hq : q.size ≤ 200 := by rw [hqe, ByteArray.size_extract]; omega
          rw [← hqe]
          clear hqe hcv hcv5 hb5 HOw HBw HB1e x5 hid
          obtain ⟨V, hV⟩ : ∃ V, V = B1 ++ R := ⟨_, rfl⟩
          have hVs : V.size ≤ 63 := by rw [hV, ByteArray.size_append]; omega
          rw [← hV]
          clear hV
          go_wp2_with fail
          go_loopw [49] (fun i wr => ∃ k : Nat, k ≤ 2 ∧ i = .int .i64 k ∧ Hid (Below w5.heap.size w5 wr)) (fun i _ => 2 - (intOf i).toNat)
          case atStart => exact ⟨0, by omega, rfl, Below.refl _ _⟩
          case round =>
            obtain ⟨k, hk, rfl, hid⟩ := hrel
            by_cases hk2 : k < 2
            · obtain ⟨S, hS1, hix⟩ := ixT q V k hk2
              have hSs : S.size ≤ 200 := by rcases hS1 with e | e <;> rw [e] <;> omega
              clear hS1
              have hSl : S.data.toList.length = S.size := by simp
              have HD := Lib.hid (fun W => decode_any S W (by omega))
              have hG := hid.out
              cases hd : decL S.data.toList with
              | none =>
                rw [decV_none _ hd] at HD
                clear hd hid hSl
                go_wp2_with (go_at_call 13; refine (HD.out _).mono ?_; rintro e w7 ⟨rfl, hb7⟩; have hG := up hG hb7; clear hb7)
                refine ⟨⟨k + 1, by omega, by go_num, hG⟩, ?_⟩
                show 2 - ((k : Int) + 1).toNat < 2 - (k : Int).toNat
                omega
              | some x =>
                rw [decV_some _ x hd] at HD
                have hxl := dec_size _ _ hd
                obtain ⟨X, hX⟩ : ∃ X : ByteArray, X = ⟨x.toArray⟩ := ⟨_, rfl⟩
                have hXl : X.data.toList = x := by rw [hX]
                have hXs : X.size = x.length := by rw [hX, Lib.size_mk]
                rw [← hX] at HD
                have HE := Lib.hid (fun W => encode_any X W (by omega))
                rw [hXl] at HE
                obtain ⟨T, hT⟩ : ∃ T : ByteArray, T = ⟨(encL x).toArray⟩ := ⟨_, rfl⟩
                obtain ⟨U, hU⟩ : ∃ U : ByteArray, U = ⟨(bareL x).toArray⟩ := ⟨_, rfl⟩
                have hTs : T.size ≤ 9000 := by rw [hT, Lib.size_mk, encL_len]; omega
                have HTR := Lib.hid (fun W => trimR T x hT W hTs)
                rw [← hT] at HE
                rw [← hU] at HTR
                have hor : S = T ∨ S = U := by
                  rcases decL_only _ _ hd with e | e
                  · exact .inr (ba_eq (by rw [e, hU]))
                  · exact .inl (ba_eq (by rw [e, hT]))
                clear hd hid hSl hxl hX hXl hXs hT hU
                by_cases hST : S = T
                · subst hST
                  have h5 : (S.toList == S.toList) = true := by simp
                  clear hor
                  go_wp2_with (first
                    | (go_at_call 13; refine (HD.out _).mono ?_; rintro e w7 ⟨rfl, hb7⟩; have hG := up hG hb7; clear hb7)
                    | (go_at_call 8; refine (HE.out _).mono ?_; rintro e w8 ⟨rfl, hb8⟩; have hG := up hG hb8; clear hb8)
                    | (go_at_call 15; refine (HTR.out _).mono ?_; rintro e w9 ⟨rfl, rfl⟩))
                  refine ⟨⟨k + 1, by omega, by go_num, hG⟩, ?_⟩
                  show 2 - ((k : Int) + 1).toNat < 2 - (k : Int).toNat
                  omega
                · obtain rfl : S = U := hor.resolve_left hST
                  have h5 : (S.toList == S.toList) = true := by simp
                  have h6 : (S.toList == T.toList) = false := ba_ne (fun e => hST (ba_eq e))
                  clear hor hST
                  go_wp2_with (first
                    | (go_at_call 13; refine (HD.out _).mono ?_; rintro e w7 ⟨rfl, hb7⟩; have hG := up hG hb7; clear hb7)
                    | (go_at_call 8; refine (HE.out _).mono ?_; rintro e w8 ⟨rfl, hb8⟩; have hG := up hG hb8; clear hb8)
                    | (go_at_call 15; refine (HTR.out _).mono ?_; rintro e w9 ⟨rfl, rfl⟩))
                  refine ⟨⟨k + 1, by omega, by go_num, hG⟩, ?_⟩
                  show 2 - ((k : Int) + 1).toNat < 2 - (k : Int).toNat
                  omega
            · obtain rfl : k = 2 := by omega
              go_wp2
              go_ret
              exact ⟨rfl, up HG5.out hid.out⟩
    · have c1 : decide ((i : Int) < (n : Int)) = false := decide_eq_false (by omega)
      have hcv := str_back (w := wr.drew) hid.out.1.drew
      have hLl : ((bs.take i).map sg).length ≤ 60 := by rw [List.length_map, List.length_take]; omega
      obtain ⟨r, hr⟩ : ∃ r : Nat, r = z.toNat % 4 := ⟨_, rfl⟩
      have er : ((z.toNat : Int) % 4) = (r : Int) := by omega
      have hr4 : r < 4 := by omega
      have ER := Lib.hid (show IntKind.i64.wrap ((z.toNat : Int).tmod 4) = (r : Int) by
        rw [Int.tmod_eq_emod_of_nonneg (by omega), er]
        exact IntWalk.i64_in _ (by omega))
      obtain ⟨B1, hB1⟩ : ∃ B : ByteArray, B = ⟨((bs.take i).map sg).toArray⟩ := ⟨_, rfl⟩
      have hB1s : B1.size ≤ 60 := by rw [hB1, Lib.size_mk]; exact hLl
      rw [← hB1] at hcv
      obtain ⟨R, hR⟩ : ∃ R : ByteArray, R = ⟨(List.replicate r 61).toArray⟩ := ⟨_, rfl⟩
      have hRs : R.size ≤ 3 := by rw [hR, Lib.size_mk, List.length_replicate]; omega
      have HRp := Lib.hid (fun W => rep_any 61 r (by omega) W)
      rw [← hR] at HRp
      have hl9 : ¬ 9223372036854775807 < B1.size + R.size := by omega
      have HOw := Lib.hid hid.out.1.drew
      have HBw := Lib.hid hid.out.2.drew
      have HB1e := Lib.hid hB1
      clear hB1 hR hr hLl
      generalize (bs.take i).map sg = L9 at HOw HB1e hid
      obtain ⟨m, hm⟩ : ∃ m : Nat, m = min s.size 200 := ⟨_, rfl⟩
      have m1 : min (s.size : Int) 200 = (m : Int) := by omega
      have m2 : (if (200 : Int) < (s.size : Int) then (200 : Int) else (s.size : Int)) = (m : Int) := by split <;> omega
      have m3 : (0 : Int) ≤ m := by omega
      have m4 : (m : Int) ≤ s.size := by omega
      have m5 : m ≤ 200 := by omega
      clear hm
      go_wp2_with fail
      go_region_held3 (fun W => (convert 28 9 (.slice AO i co)).run Tryd.prog W = .ok (.string B1) W) (first | (with_reducible exact hcv) | (with_reducible exact hcv5)) ((go_at_call 16; rw [ER.out]; refine (HRp.out _).mono ?_; rintro e w5 ⟨rfl, hb5⟩; have hcv5 := str_back (own_below HOw.out hb5); rw [← HB1e.out] at hcv5))
      all_goals
        rename_i K5 hK5 x5
        show K5 _ _
        refine hK5 _ _ ?_
        clear hK5
        have HG5 := Lib.hid (up HB1.out (HBw.out.trans (hb5.mono HBw.out.size)))
        obtain ⟨q, hqe⟩ : ∃ q, q = s.extract 0 m := ⟨_, rfl⟩
        have hq : q.size ≤ 200 := by rw [hqe, ByteArray.size_extract]; omega
        rw [← hqe]
        clear hqe hcv hcv5 hb5 HOw HBw HB1e x5 hid
        obtain ⟨V, hV⟩ : ∃ V, V = B1 ++ R := ⟨_, rfl⟩
        have hVs : V.size ≤ 63 := by rw [hV, ByteArray.size_append]; omega
        rw [← hV]
        clear hV
        go_wp2_with fail
        go_loopw [49] (fun i wr => ∃ k : Nat, k ≤ 2 ∧ i = .int .i64 k ∧ Hid (Below w5.heap.size w5 wr)) (fun i _ => 2 - (intOf i).toNat)
        case atStart => exact ⟨0, by omega, rfl, Below.refl _ _⟩
        case round =>
          obtain ⟨k, hk, rfl, hid⟩ := hrel
          by_cases hk2 : k < 2
          · obtain ⟨S, hS1, hix⟩ := ixT q V k hk2
            have hSs : S.size ≤ 200 := by rcases hS1 with e | e <;> rw [e] <;> omega
            clear hS1
            have hSl : S.data.toList.length = S.size := by simp
            have HD := Lib.hid (fun W => decode_any S W (by omega))
            have hG := hid.out
            cases hd : decL S.data.toList with
            | none =>
              rw [decV_none _ hd] at HD
              clear hd hid hSl
              go_wp2_with (go_at_call 13; refine (HD.out _).mono ?_; rintro e w7 ⟨rfl, hb7⟩; have hG := up hG hb7; clear hb7)
              refine ⟨⟨k + 1, by omega, by go_num, hG⟩, ?_⟩
              show 2 - ((k : Int) + 1).toNat < 2 - (k : Int).toNat
              omega
            | some x =>
              rw [decV_some _ x hd] at HD
              have hxl := dec_size _ _ hd
              obtain ⟨X, hX⟩ : ∃ X : ByteArray, X = ⟨x.toArray⟩ := ⟨_, rfl⟩
              have hXl : X.data.toList = x := by rw [hX]
              have hXs : X.size = x.length := by rw [hX, Lib.size_mk]
              rw [← hX] at HD
              have HE := Lib.hid (fun W => encode_any X W (by omega))
              rw [hXl] at HE
              obtain ⟨T, hT⟩ : ∃ T : ByteArray, T = ⟨(encL x).toArray⟩ := ⟨_, rfl⟩
              obtain ⟨U, hU⟩ : ∃ U : ByteArray, U = ⟨(bareL x).toArray⟩ := ⟨_, rfl⟩
              have hTs : T.size ≤ 9000 := by rw [hT, Lib.size_mk, encL_len]; omega
              have HTR := Lib.hid (fun W => trimR T x hT W hTs)
              rw [← hT] at HE
              rw [← hU] at HTR
              have hor : S = T ∨ S = U := by
                rcases decL_only _ _ hd with e | e
                · exact .inr (ba_eq (by rw [e, hU]))
                · exact .inl (ba_eq (by rw [e, hT]))
              clear hd hid hSl hxl hX hXl hXs hT hU
              by_cases hST : S = T
              · subst hST
                have h5 : (S.toList == S.toList) = true := by simp
                clear hor
                go_wp2_with (first
                  | (go_at_call 13; refine (HD.out _).mono ?_; rintro e w7 ⟨rfl, hb7⟩; have hG := up hG hb7; clear hb7)
                  | (go_at_call 8; refine (HE.out _).mono ?_; rintro e w8 ⟨rfl, hb8⟩; have hG := up hG hb8; clear hb8)
                  | (go_at_call 15; refine (HTR.out _).mono ?_; rintro e w9 ⟨rfl, rfl⟩))
                refine ⟨⟨k + 1, by omega, by go_num, hG⟩, ?_⟩
                show 2 - ((k : Int) + 1).toNat < 2 - (k : Int).toNat
                omega
              · obtain rfl : S = U := hor.resolve_left hST
                have h5 : (S.toList == S.toList) = true := by simp
                have h6 : (S.toList == T.toList) = false := ba_ne (fun e => hST (ba_eq e))
                clear hor hST
                go_wp2_with (first
                  | (go_at_call 13; refine (HD.out _).mono ?_; rintro e w7 ⟨rfl, hb7⟩; have hG := up hG hb7; clear hb7)
                  | (go_at_call 8; refine (HE.out _).mono ?_; rintro e w8 ⟨rfl, hb8⟩; have hG := up hG hb8; clear hb8)
                  | (go_at_call 15; refine (HTR.out _).mono ?_; rintro e w9 ⟨rfl, rfl⟩))
                refine ⟨⟨k + 1, by omega, by go_num, hG⟩, ?_⟩
                show 2 - ((k : Int) + 1).toNat < 2 - (k : Int).toNat
                omega
          · obtain rfl : k = 2 := by omega
            go_wp2
            go_ret
            exact ⟨rfl, up HG5.out hid.out⟩
end Go.Proofs.YthdndbeknmcniaaDoor.B64
