/-
  Contracts of the reference's Encode and Decode.
-/
import Derived.Test.YthdndbeknmcniaaDoorB64R
namespace Go.Proofs.YthdndbeknmcniaaDoor.B64
open Go.RowKit Utf

theorem pad_snoc (l : List UInt8) (j : Nat) : (⟨(l ++ List.replicate j 61).toArray⟩ : ByteArray) ++ (⟨#[61]⟩ : ByteArray) = ⟨(l ++ List.replicate (j + 1) 61).toArray⟩ := by
  rw [show (⟨#[61]⟩ : ByteArray) = ⟨[61].toArray⟩ from rfl, app_ba, List.append_assoc, List.replicate_succ']
set_option maxRecDepth 100000 in
set_option maxHeartbeats 1000000 in
theorem rencode_long (s : ByteArray) (w : World) (h : 4096 < s.size) : Calls Tryd.prog 9 #[.string s] w fun e w' => e = .returned (.tuple #[.string ⟨#[]⟩, .int .i64 3]) ∧ w' = w := by
  have h1 : (4096 : Int) < s.size := by omega
  go_enter Tryd.func9, Tryd.ntmps9
  go_wp2
  go_ret2
  exact ⟨rfl, rfl⟩
set_option maxRecDepth 100000 in
set_option maxHeartbeats 4000000 in
theorem rencode_any (s : ByteArray) (w : World) (h : s.size ≤ 4096) : Calls Tryd.prog 9 #[.string s] w fun e w' => e = .returned (.tuple #[.string ⟨(encL s.data.toList).toArray⟩, .int .i64 0]) ∧ Below w.heap.size w w' := by
  have h1 : (s.size : Int) ≤ 4096 := by omega
  obtain ⟨b, hb⟩ : ∃ b, b = bareL s.data.toList := ⟨_, rfl⟩
  obtain ⟨T0, hT0⟩ : ∃ T : ByteArray, T = ⟨b.toArray⟩ := ⟨_, rfl⟩
  obtain ⟨L, hL⟩ : ∃ L, L = b.length := ⟨_, rfl⟩
  have hTL : T0.size = L := by rw [hT0, Lib.size_mk, hL]
  have hL1 : L ≤ 20000 := by rw [hL, hb, bare_len]; simp; omega
  obtain ⟨m, hm⟩ : ∃ m, m = (4 - L % 4) % 4 := ⟨_, rfl⟩
  obtain ⟨FU, hFU⟩ : ∃ F : ByteArray, F = ⟨(encL s.data.toList).toArray⟩ := ⟨_, rfl⟩
  have HFull := Lib.hid (show FU = ⟨(b ++ List.replicate m 61).toArray⟩ by rw [hFU, encL, padL, ← hb, ← hL, ← hm])
  have HB := Lib.hid (fun W => rbare_any s W (by omega))
  rw [← hb, ← hT0] at HB
  rw [← hFU]
  have HT0 := Lib.hid hT0
  clear hFU hT0 hb hL
  go_enter Tryd.func9, Tryd.ntmps9
  go_wp2_with (go_at_call 22; refine (HB.out _).mono ?_; rintro e w1 ⟨rfl, hb1⟩)
  go_loopw [4] (fun v wr => ∃ (j : Nat) (T : ByteArray), j ≤ m ∧ v = .string T ∧ T.size = L + j ∧ Hid (T = ⟨(b ++ List.replicate j 61).toArray⟩) ∧ Hid (Below w1.heap.size w1 wr)) (fun v _ => L + 4 - Lib.strSize v)
  case atStart => exact ⟨0, T0, by omega, rfl, by omega, Lib.hid (by rw [HT0.out, List.replicate_zero, List.append_nil]), Below.refl _ _⟩
  case round =>
    obtain ⟨j, T, hj, rfl, hTs, hT, hid⟩ := hrel
    obtain ⟨e4, he4⟩ : ∃ e : Nat, e = (L + j) % 4 := ⟨_, rfl⟩
    have he5 : (T.size : Int) % 4 = (e4 : Int) := by omega
    have hl9 : ¬ 9223372036854775807 < T.size + 1 := by omega
    have hm3 : m ≤ 3 := by omega
    by_cases hjm : j < m
    · have he6 : ((e4 : Int) != 0) = true := by rw [bne_iff_ne]; omega
      obtain ⟨T2, hT2⟩ : ∃ T2 : ByteArray, T2 = T ++ ⟨#[61]⟩ := ⟨_, rfl⟩
      have hT2s : T2.size = L + (j + 1) := by rw [hT2, ByteArray.size_append, hTs]; rfl
      have HI := Lib.hid (show T2 = ⟨(b ++ List.replicate (j + 1) 61).toArray⟩ by rw [hT2, hT.out, pad_snoc])
      have HT2 := Lib.hid hT2
      have HTs := Lib.hid hTs
      clear hT2 hT hTs he4 hm hTL
      go_wp2
      rw [← HT2.out]
      refine ⟨⟨j + 1, T2, by omega, rfl, hT2s, HI, hid⟩, ?_⟩
      rw [Lib.strSize_string, Lib.strSize_string, HTs.out, hT2s]
      omega
    · obtain rfl : j = m := by omega
      have he7 : e4 = 0 := by omega
      subst he7
      have hT5 := hT.out.trans HFull.out.symm
      clear hT he4 hm hTL hl9 hjm
      subst hT5
      clear hTs
      go_wp2
      go_ret2
      exact ⟨rfl, up hb1 hid.out⟩
theorem pre_all (l : List UInt8) (vs : List Nat) (h : valsL l = some vs) : preL l = vs := by
  induction l generalizing vs with
  | nil => cases h; rfl
  | cons x r ih =>
    rw [valsL] at h
    split at h
    · rename_i u us hu hus
      cases h
      rw [preL, hu]
      simp only
      rw [ih us hus]
    · cases h
theorem pre_stop (a : List UInt8) (c : UInt8) (r : List UInt8) (vs : List Nat) (h : valsL a = some vs) (hc : vl c = none) : preL (a ++ c :: r) = vs := by
  induction a generalizing vs with
  | nil => cases h; rw [List.nil_append, preL, hc]
  | cons x a ih =>
    rw [valsL] at h
    split at h
    · rename_i u us hu hus
      cases h
      rw [List.cons_append, preL, hu]
      simp only
      rw [ih us hus]
    · cases h
theorem ref_no (l : List UInt8) (vs : List Nat) (h : preL l = vs) (h1 : l ≠ bareL (decV 0 0 vs)) (h2 : l ≠ encL (decV 0 0 vs)) : decV' l = .tuple #[.string ⟨#[]⟩, .int .i64 6] := by
  refine decV_none _ ?_
  rw [← ref_is, refL, h]
  rw [if_pos ⟨h1, h2⟩]
theorem ref_yes (l : List UInt8) (vs : List Nat) (h : preL l = vs) (h1 : l = bareL (decV 0 0 vs) ∨ l = encL (decV 0 0 vs)) : decV' l = .tuple #[.string ⟨(decV 0 0 vs).toArray⟩, .int .i64 0] := by
  refine decV_some _ _ ?_
  rw [← ref_is, refL, h]
  rw [if_neg (fun e => h1.elim e.1 e.2)]
set_option maxRecDepth 100000 in
set_option maxHeartbeats 1000000 in
theorem rdecode_long (s : ByteArray) (w : World) (h : 8192 < s.size) : Calls Tryd.prog 14 #[.string s] w fun e w' => e = .returned (.tuple #[.string ⟨#[]⟩, .int .i64 3]) ∧ w' = w := by
  have h1 : (8192 : Int) < s.size := by omega
  go_enter Tryd.func14, Tryd.ntmps14
  go_wp2
  go_ret2
  exact ⟨rfl, rfl⟩
set_option maxRecDepth 100000 in
set_option maxHeartbeats 8000000 in
theorem rdecode_any (s : ByteArray) (w : World) (h : s.size ≤ 8192) : Calls Tryd.prog 14 #[.string s] w fun e w' => e = .returned (decV' s.data.toList) ∧ Below w.heap.size w w' := by
  have h1 : (s.size : Int) ≤ 8192 := by omega
  obtain ⟨D, hD⟩ : ∃ D, D = decV' s.data.toList := ⟨_, rfl⟩
  have HD := Lib.hid hD
  rw [← hD]
  clear hD
  obtain ⟨l, hl⟩ : ∃ l, l = s.data.toList := ⟨_, rfl⟩
  have hll : l.length = s.size := by rw [hl]; simp
  have HL := Lib.hid (And.intro hl hll)
  clear hl hll
  obtain ⟨t0, hi0, hy0, hy1, hy2⟩ := info_parts infoB
  go_enter Tryd.func14, Tryd.ntmps14
  go_wp2_with fail
  go_loopw [4, 5, 6, 7] (fun nv kv ov iv wr => ∃ (i n : Nat) (vs : List Nat), i ≤ s.size ∧ n < 1048576 ∧ nv = .int .i64 (n : Int) ∧ kv = .int .i64 ((runD vs).k : Int) ∧ iv = .int .i64 (i : Int) ∧ Hid (valsL (l.take i) = some vs ∧ n % 2 ^ (runD vs).k = (runD vs).b ∧ wr.ownsRow w.heap.size 5 1 ov (runD vs).o.length (cB (runD vs).o) ∧ Below w.heap.size w wr)) (fun _ _ _ iv _ => s.size - (intOf iv).toNat)
  case atStart => exact ⟨0, 0, [], by omega, by omega, rfl, rfl, rfl, rfl, rfl, World.ownsRow_nil _ _ _ _, Below.refl _ _⟩
  case round =>
    obtain ⟨i, n, vs, hi, hn, rfl, rfl, rfl, hid⟩ := hrel
    obtain ⟨AO, co, hsh, _, _⟩ := own_slice hid.out.2.2.1
    subst hsh
    have hvs := hid.out.1
    have hnb := hid.out.2.1
    have HOw := Lib.hid hid.out.2.2.1
    have HBw := Lib.hid hid.out.2.2.2
    have hsz := HBw.out.size
    have hvl : ∀ v ∈ vs, v < 64 := (map_vals _ _ hvs).2
    have hok := runD_ok vs hvl
    have hlen := vals_len _ _ hvs
    rw [List.length_take, HL.out.2] at hlen
    clear hid
    by_cases hi2 : i < s.size
    · obtain ⟨c, hc⟩ := get_some' l i (by rw [HL.out.2]; exact hi2)
      have hx := idx_run 9 s i c (by rw [← HL.out.1]; exact hc) Tryd.underlying9
      have HV := Lib.hid (fun W => rvalue_any c W)
      have c1 : decide ((i : Int) < (s.size : Int)) = true := decide_eq_true (by omega)
      have hc1 : (c.toNat : Int) < 256 := by have := c.toNat_lt; omega
      cases hv : vl c with
      | none =>
        have hv2 : vlI c = -1 := by rw [vlI, hv]
        rw [hv2] at HV
        have hpre : preL s.data.toList = vs := by
          have e : s.data.toList = l.take i ++ c :: l.drop (i + 1) := by
            have hlt2 : i < l.length := by rw [HL.out.2]; exact hi2
            have e2 : l[i] = c := (List.getElem?_eq_some_iff.1 hc).2
            rw [← e2, ← List.drop_eq_getElem_cons hlt2, List.take_append_drop, HL.out.1]
          rw [e]; exact pre_stop _ _ _ _ hvs hv
        clear hc hv hv2 hok hnb
        obtain ⟨x, hx⟩ : ∃ x, x = (runD vs).o := ⟨_, rfl⟩
        have hxd : x = decV 0 0 vs := by rw [hx]; exact (dec_run vs hvl).1
        rw [← hx] at HOw ⊢
        obtain ⟨X, hX⟩ : ∃ X : ByteArray, X = ⟨x.toArray⟩ := ⟨_, rfl⟩
        have hXl : X.data.toList = x := by rw [hX]
        have hxlen : x.length ≤ 8192 := by rw [hx]; have := runD_len vs; omega
        have hXs : X.size ≤ 8192 := by rw [hX, Lib.size_mk]; exact hxlen
        have hcv := str_back HOw.out
        rw [← hX] at hcv
        obtain ⟨b, hb⟩ : ∃ b, b = bareL x := ⟨_, rfl⟩
        obtain ⟨T0, hT0⟩ : ∃ T : ByteArray, T = ⟨b.toArray⟩ := ⟨_, rfl⟩
        obtain ⟨L, hL⟩ : ∃ L, L = b.length := ⟨_, rfl⟩
        have hTL : T0.size = L := by rw [hT0, Lib.size_mk, hL]
        have hL1 : L ≤ 20000 := by rw [hL, hb, bare_len]; omega
        obtain ⟨m, hm⟩ : ∃ m, m = (4 - L % 4) % 4 := ⟨_, rfl⟩
        obtain ⟨FU, hFU⟩ : ∃ F : ByteArray, F = ⟨(encL x).toArray⟩ := ⟨_, rfl⟩
        have HFull := Lib.hid (show FU = ⟨(b ++ List.replicate m 61).toArray⟩ by rw [hFU, encL, padL, ← hb, ← hL, ← hm])
        have HB := Lib.hid (fun W => rbare_any X W (by omega))
        rw [hXl, ← hb, ← hT0] at HB
        have HT0 := Lib.hid hT0
        have hno : s.data.toList ≠ T0.data.toList → s.data.toList ≠ FU.data.toList → D = .tuple #[.string ⟨#[]⟩, .int .i64 6] := fun e1 e2 => by
          rw [HD.out]
          exact ref_no _ vs hpre (by rw [← hxd, ← hb]; rw [hT0] at e1; exact e1) (by rw [← hxd]; rw [hFU] at e2; exact e2)
        have hyes : s.data.toList = T0.data.toList ∨ s.data.toList = FU.data.toList → D = .tuple #[.string X, .int .i64 0] := fun e1 => by
          rw [HD.out, hX, hxd]
          exact ref_yes _ vs hpre (e1.imp (fun e => by rw [e, hT0, ← hxd, ← hb]) (fun e => by rw [e, hFU, ← hxd]))
        have HNY := Lib.hid (And.intro hno hyes)
        have HBw2 := Lib.hid HBw.out
        clear hno hyes hFU hT0 hb hL hx hxd hX hXl hxlen hpre HOw hvl hvs hlen HD
        go_wp2_with (first
          | (go_at_call 22; refine (HB.out _).mono ?_; rintro e w1 ⟨rfl, hb1⟩)
          | (go_at_call 25; refine (HV.out _).mono ?_; rintro e w9 ⟨rfl, rfl⟩))
        have HB1 := Lib.hid (HBw2.out.trans (hb1.mono HBw2.out.size))
        clear hb1 hcv
        go_loopw [10] (fun v wr => ∃ (j : Nat) (T : ByteArray), j ≤ m ∧ v = .string T ∧ T.size = L + j ∧ Hid (T = ⟨(b ++ List.replicate j 61).toArray⟩) ∧ Hid (Below w1.heap.size w1 wr)) (fun v _ => L + 4 - Lib.strSize v)
        case atStart => exact ⟨0, T0, by omega, rfl, by omega, Lib.hid (by rw [HT0.out, List.replicate_zero, List.append_nil]), Below.refl _ _⟩
        case round =>
          obtain ⟨j, T, hj, rfl, hTs, hT, hid⟩ := hrel
          obtain ⟨e4, he4⟩ : ∃ e : Nat, e = (L + j) % 4 := ⟨_, rfl⟩
          have he5 : (T.size : Int) % 4 = (e4 : Int) := by omega
          have hl9 : ¬ 9223372036854775807 < T.size + 1 := by omega
          have hm3 : m ≤ 3 := by omega
          by_cases hjm : j < m
          · have he6 : ((e4 : Int) != 0) = true := by rw [bne_iff_ne]; omega
            obtain ⟨T2, hT2⟩ : ∃ T2 : ByteArray, T2 = T ++ ⟨#[61]⟩ := ⟨_, rfl⟩
            have hT2s : T2.size = L + (j + 1) := by rw [hT2, ByteArray.size_append, hTs]; rfl
            have HI := Lib.hid (show T2 = ⟨(b ++ List.replicate (j + 1) 61).toArray⟩ by rw [hT2, hT.out, pad_snoc])
            have HT2 := Lib.hid hT2
            have HTs := Lib.hid hTs
            clear hT2 hT hTs he4 hm hTL
            go_wp2
            rw [← HT2.out]
            refine ⟨⟨j + 1, T2, by omega, rfl, hT2s, HI, hid⟩, ?_⟩
            rw [Lib.strSize_string, Lib.strSize_string, HTs.out, hT2s]
            omega
          · obtain rfl : j = m := by omega
            have he7 : e4 = 0 := by omega
            subst he7
            have hT5 := hT.out.trans HFull.out.symm
            clear hT he4 hm hTL hl9 hjm
            subst hT5
            clear hTs
            by_cases e1 : s = T0
            · have hfin := HNY.out.2 (.inl (by rw [e1]))
              have q1 : (s.toList == T0.toList) = true := by rw [e1]; simp
              clear HNY e1
              subst hfin
              go_wp2
              go_ret2
              exact ⟨rfl, HB1.out.trans (hid.out.mono HB1.out.size)⟩
            · have q1 : (s.toList == T0.toList) = false := ba_ne (fun e => e1 (ba_eq e))
              by_cases e2 : s = T
              · have hfin := HNY.out.2 (.inr (by rw [e2]))
                have q2 : (s.toList == T.toList) = true := by rw [e2]; simp
                clear HNY e1 e2
                subst hfin
                go_wp2
                go_ret2
                exact ⟨rfl, HB1.out.trans (hid.out.mono HB1.out.size)⟩
              · have q2 : (s.toList == T.toList) = false := ba_ne (fun e => e2 (ba_eq e))
                have hfin := HNY.out.1 (fun e => e1 (ba_eq e)) (fun e => e2 (ba_eq e))
                clear HNY e1 e2
                subst hfin
                go_wp2
                go_ret2
                exact ⟨rfl, HB1.out.trans (hid.out.mono HB1.out.size)⟩
      | some v =>
        have hv2 : vlI c = (v : Int) := by rw [vlI, hv]
        rw [hv2] at HV
        have hv64 := (ch_vl c v hv).1
        have hvs2 := vals_snoc _ c vs v hvs hv
        have htk : l.take (i + 1) = l.take i ++ [c] := by rw [List.take_add_one, hc]; rfl
        rw [← htk] at hvs2
        have HR := Lib.hid (runD_snoc vs v)
        have HV2 := Lib.hid hvs2
        have hlo : (runD vs).o.length ≤ 9000 := by have := runD_len vs; omega
        obtain ⟨n2, hn2⟩ : ∃ n2 : Nat, n2 = (n * 64 + v) % 1048576 := ⟨_, rfl⟩
        have hn3 : ((n : Int) * 64 + (v : Int)) % 1048576 = (n2 : Int) := by omega
        have hn4 : n2 < 1048576 := by omega
        have hv3 : (0 : Int) ≤ v := by omega
        have hge : decide ((0 : Int) ≤ (v : Int)) = true := decide_eq_true hv3
        clear hc hv hv2 hvs2 htk hvs hlen hvl
        generalize runD vs = p at hnb HOw hok HR hlo ⊢
        obtain ⟨pb, pk, po⟩ := p
        simp only at hnb HOw hlo
        rcases hok with ⟨hk, hb⟩ | ⟨hk, hb⟩ | ⟨hk, hb⟩ | ⟨hk, hb⟩
        · obtain rfl : pk = 0 := hk
          have hb0 : pb = 0 := by have : pb < 1 := hb; omega
          have hst : runD (vs ++ [v]) = ⟨v, 6, po⟩ := by rw [HR.out]; unfold stD; rw [if_pos rfl, hb0]; simp
          have HI := Lib.hid (show n2 % 2 ^ 6 = v by omega)
          clear hn2 hnb hb HR
          go_wp2_with (go_at_call 25; refine (HV.out _).mono ?_; rintro e w9 ⟨rfl, rfl⟩)
          refine ⟨⟨i + 1, n2, vs ++ [v], by omega, hn4, congrArg (Value.int .i64) hn3, by rw [hst]; rfl, by go_num, Lib.hid ⟨HV2.out, by rw [hst]; exact HI.out, by rw [hst]; exact HOw.out, HBw.out⟩⟩, ?_⟩
          show s.size - ((i : Int) + 1).toNat < s.size - (i : Int).toNat
          omega
        · obtain rfl : pk = 6 := hk
          have hb0 : pb < 64 := hb
          obtain ⟨y, hy⟩ : ∃ y, y = byt ((pb * 64 + v) / 16) := ⟨_, rfl⟩
          have hst : runD (vs ++ [v]) = ⟨(pb * 64 + v) % 16, 4, po ++ [y]⟩ := by rw [HR.out, hy]; unfold stD; rw [if_neg (by show ¬ (6 : Nat) = 0; decide), if_pos rfl]
          obtain ⟨q, hq⟩ : ∃ q : Nat, q = n2 / 16 := ⟨_, rfl⟩
          have hq1 : (n2 : Int) / 16 = (q : Int) := by omega
          have hnb' : n % 64 = pb := hnb
          have hq2 : q % 256 = (pb * 64 + v) / 16 := by omega
          have hyw : IntKind.u8.wrap (q : Int) = (y.toNat : Int) := by
            rw [IntKind.wrap_u8, hy, byt_toNat _ (by omega)]
            omega
          have HI := Lib.hid (show n2 % 2 ^ 4 = (pb * 64 + v) % 16 by omega)
          have Hs := Lib.hid (cB_snoc po y)
          clear hn2 hnb hnb' hb HR hq hq2 hy
          go_wp2_with (first
            | (go_at_call 25; refine (HV.out _).mono ?_; rintro e w9 ⟨rfl, rfl⟩)
            | (at_builtin; refine wpList_appB _ rfl _ _ 28 rfl w.heap.size 5 t0 _ 1 Tryd.underlying28 hi0 hy0 hy1 hy2 rfl _ po.length (cB po) rfl (own_below HOw.out (below_box _ _)) (some ⟨_, 0, none⟩) 1 1 [.int .u8 (y.toNat : Int)] rfl rfl (Rd.one _ _ _) (by intro u hu; simp at hu; subst hu; rfl) (by omega) (by decide) (by rw [World.size_alloc]; omega) ?_; intro v' w' hown hgrow; obtain ⟨A2, c2, hsh2, _, _⟩ := own_slice hown; subst hsh2; rw [Hs.out] at hown))
          refine ⟨⟨i + 1, n2, vs ++ [v], by omega, hn4, rfl, by rw [hst]; rfl, by go_num, Lib.hid ⟨HV2.out, by rw [hst]; exact HI.out, by rw [hst, List.length_append, List.length_singleton]; exact hown, (HBw.out.trans ((below_box _ _).mono hsz)).trans hgrow⟩⟩, ?_⟩
          show s.size - ((i : Int) + 1).toNat < s.size - (i : Int).toNat
          omega
        · obtain rfl : pk = 4 := hk
          have hb0 : pb < 16 := hb
          obtain ⟨y, hy⟩ : ∃ y, y = byt ((pb * 64 + v) / 4) := ⟨_, rfl⟩
          have hst : runD (vs ++ [v]) = ⟨(pb * 64 + v) % 4, 2, po ++ [y]⟩ := by rw [HR.out, hy]; unfold stD; rw [if_neg (by show ¬ (4 : Nat) = 0; decide), if_neg (by show ¬ (4 : Nat) = 6; decide), if_pos rfl]
          obtain ⟨q, hq⟩ : ∃ q : Nat, q = n2 / 4 := ⟨_, rfl⟩
          have hq1 : (n2 : Int) / 4 = (q : Int) := by omega
          have hnb' : n % 16 = pb := hnb
          have hq2 : q % 256 = (pb * 64 + v) / 4 := by omega
          have hyw : IntKind.u8.wrap (q : Int) = (y.toNat : Int) := by
            rw [IntKind.wrap_u8, hy, byt_toNat _ (by omega)]
            omega
          have HI := Lib.hid (show n2 % 2 ^ 2 = (pb * 64 + v) % 4 by omega)
          have Hs := Lib.hid (cB_snoc po y)
          clear hn2 hnb hnb' hb HR hq hq2 hy
          go_wp2_with (first
            | (go_at_call 25; refine (HV.out _).mono ?_; rintro e w9 ⟨rfl, rfl⟩)
            | (at_builtin; refine wpList_appB _ rfl _ _ 28 rfl w.heap.size 5 t0 _ 1 Tryd.underlying28 hi0 hy0 hy1 hy2 rfl _ po.length (cB po) rfl (own_below HOw.out (below_box _ _)) (some ⟨_, 0, none⟩) 1 1 [.int .u8 (y.toNat : Int)] rfl rfl (Rd.one _ _ _) (by intro u hu; simp at hu; subst hu; rfl) (by omega) (by decide) (by rw [World.size_alloc]; omega) ?_; intro v' w' hown hgrow; obtain ⟨A2, c2, hsh2, _, _⟩ := own_slice hown; subst hsh2; rw [Hs.out] at hown))
          refine ⟨⟨i + 1, n2, vs ++ [v], by omega, hn4, rfl, by rw [hst]; rfl, by go_num, Lib.hid ⟨HV2.out, by rw [hst]; exact HI.out, by rw [hst, List.length_append, List.length_singleton]; exact hown, (HBw.out.trans ((below_box _ _).mono hsz)).trans hgrow⟩⟩, ?_⟩
          show s.size - ((i : Int) + 1).toNat < s.size - (i : Int).toNat
          omega
        · obtain rfl : pk = 2 := hk
          have hb0 : pb < 4 := hb
          obtain ⟨y, hy⟩ : ∃ y, y = byt ((pb * 64 + v)) := ⟨_, rfl⟩
          have hst : runD (vs ++ [v]) = ⟨0, 0, po ++ [y]⟩ := by rw [HR.out, hy]; unfold stD; rw [if_neg (by show ¬ (2 : Nat) = 0; decide), if_neg (by show ¬ (2 : Nat) = 6; decide), if_neg (by show ¬ (2 : Nat) = 4; decide)]
          obtain ⟨q, hq⟩ : ∃ q : Nat, q = n2 / 1 := ⟨_, rfl⟩
          have hq1 : (n2 : Int) / 1 = (q : Int) := by omega
          have hnb' : n % 4 = pb := hnb
          have hq2 : q % 256 = (pb * 64 + v) := by omega
          have hyw : IntKind.u8.wrap (q : Int) = (y.toNat : Int) := by
            rw [IntKind.wrap_u8, hy, byt_toNat _ (by omega)]
            omega
          have HI := Lib.hid (show n2 % 2 ^ 0 = 0 by omega)
          have Hs := Lib.hid (cB_snoc po y)
          clear hn2 hnb hnb' hb HR hq hq2 hy
          go_wp2_with (first
            | (go_at_call 25; refine (HV.out _).mono ?_; rintro e w9 ⟨rfl, rfl⟩)
            | (at_builtin; refine wpList_appB _ rfl _ _ 28 rfl w.heap.size 5 t0 _ 1 Tryd.underlying28 hi0 hy0 hy1 hy2 rfl _ po.length (cB po) rfl (own_below HOw.out (below_box _ _)) (some ⟨_, 0, none⟩) 1 1 [.int .u8 (y.toNat : Int)] rfl rfl (Rd.one _ _ _) (by intro u hu; simp at hu; subst hu; rfl) (by omega) (by decide) (by rw [World.size_alloc]; omega) ?_; intro v' w' hown hgrow; obtain ⟨A2, c2, hsh2, _, _⟩ := own_slice hown; subst hsh2; rw [Hs.out] at hown))
          refine ⟨⟨i + 1, n2, vs ++ [v], by omega, hn4, rfl, by rw [hst]; rfl, by go_num, Lib.hid ⟨HV2.out, by rw [hst]; exact HI.out, by rw [hst, List.length_append, List.length_singleton]; exact hown, (HBw.out.trans ((below_box _ _).mono hsz)).trans hgrow⟩⟩, ?_⟩
          show s.size - ((i : Int) + 1).toNat < s.size - (i : Int).toNat
          omega
    · have c1 : decide ((i : Int) < (s.size : Int)) = false := decide_eq_false (by omega)
      have hpre : preL s.data.toList = vs := by
        rw [← HL.out.1]
        rw [List.take_of_length_le (by rw [HL.out.2]; omega)] at hvs
        exact pre_all _ _ hvs
      clear hok hnb
      obtain ⟨x, hx⟩ : ∃ x, x = (runD vs).o := ⟨_, rfl⟩
      have hxd : x = decV 0 0 vs := by rw [hx]; exact (dec_run vs hvl).1
      rw [← hx] at HOw ⊢
      obtain ⟨X, hX⟩ : ∃ X : ByteArray, X = ⟨x.toArray⟩ := ⟨_, rfl⟩
      have hXl : X.data.toList = x := by rw [hX]
      have hxlen : x.length ≤ 8192 := by rw [hx]; have := runD_len vs; omega
      have hXs : X.size ≤ 8192 := by rw [hX, Lib.size_mk]; exact hxlen
      have hcv := str_back HOw.out
      rw [← hX] at hcv
      obtain ⟨b, hb⟩ : ∃ b, b = bareL x := ⟨_, rfl⟩
      obtain ⟨T0, hT0⟩ : ∃ T : ByteArray, T = ⟨b.toArray⟩ := ⟨_, rfl⟩
      obtain ⟨L, hL⟩ : ∃ L, L = b.length := ⟨_, rfl⟩
      have hTL : T0.size = L := by rw [hT0, Lib.size_mk, hL]
      have hL1 : L ≤ 20000 := by rw [hL, hb, bare_len]; omega
      obtain ⟨m, hm⟩ : ∃ m, m = (4 - L % 4) % 4 := ⟨_, rfl⟩
      obtain ⟨FU, hFU⟩ : ∃ F : ByteArray, F = ⟨(encL x).toArray⟩ := ⟨_, rfl⟩
      have HFull := Lib.hid (show FU = ⟨(b ++ List.replicate m 61).toArray⟩ by rw [hFU, encL, padL, ← hb, ← hL, ← hm])
      have HB := Lib.hid (fun W => rbare_any X W (by omega))
      rw [hXl, ← hb, ← hT0] at HB
      have HT0 := Lib.hid hT0
      have hno : s.data.toList ≠ T0.data.toList → s.data.toList ≠ FU.data.toList → D = .tuple #[.string ⟨#[]⟩, .int .i64 6] := fun e1 e2 => by
        rw [HD.out]
        exact ref_no _ vs hpre (by rw [← hxd, ← hb]; rw [hT0] at e1; exact e1) (by rw [← hxd]; rw [hFU] at e2; exact e2)
      have hyes : s.data.toList = T0.data.toList ∨ s.data.toList = FU.data.toList → D = .tuple #[.string X, .int .i64 0] := fun e1 => by
        rw [HD.out, hX, hxd]
        exact ref_yes _ vs hpre (e1.imp (fun e => by rw [e, hT0, ← hxd, ← hb]) (fun e => by rw [e, hFU, ← hxd]))
      have HNY := Lib.hid (And.intro hno hyes)
      have HBw2 := Lib.hid HBw.out
      clear hno hyes hFU hT0 hb hL hx hxd hX hXl hxlen hpre HOw hvl hvs hlen HD
      go_wp2_with (first
        | (go_at_call 22; refine (HB.out _).mono ?_; rintro e w1 ⟨rfl, hb1⟩))
      have HB1 := Lib.hid (HBw2.out.trans (hb1.mono HBw2.out.size))
      clear hb1 hcv
      go_loopw [10] (fun v wr => ∃ (j : Nat) (T : ByteArray), j ≤ m ∧ v = .string T ∧ T.size = L + j ∧ Hid (T = ⟨(b ++ List.replicate j 61).toArray⟩) ∧ Hid (Below w1.heap.size w1 wr)) (fun v _ => L + 4 - Lib.strSize v)
      case atStart => exact ⟨0, T0, by omega, rfl, by omega, Lib.hid (by rw [HT0.out, List.replicate_zero, List.append_nil]), Below.refl _ _⟩
      case round =>
        obtain ⟨j, T, hj, rfl, hTs, hT, hid⟩ := hrel
        obtain ⟨e4, he4⟩ : ∃ e : Nat, e = (L + j) % 4 := ⟨_, rfl⟩
        have he5 : (T.size : Int) % 4 = (e4 : Int) := by omega
        have hl9 : ¬ 9223372036854775807 < T.size + 1 := by omega
        have hm3 : m ≤ 3 := by omega
        by_cases hjm : j < m
        · have he6 : ((e4 : Int) != 0) = true := by rw [bne_iff_ne]; omega
          obtain ⟨T2, hT2⟩ : ∃ T2 : ByteArray, T2 = T ++ ⟨#[61]⟩ := ⟨_, rfl⟩
          have hT2s : T2.size = L + (j + 1) := by rw [hT2, ByteArray.size_append, hTs]; rfl
          have HI := Lib.hid (show T2 = ⟨(b ++ List.replicate (j + 1) 61).toArray⟩ by rw [hT2, hT.out, pad_snoc])
          have HT2 := Lib.hid hT2
          have HTs := Lib.hid hTs
          clear hT2 hT hTs he4 hm hTL
          go_wp2
          rw [← HT2.out]
          refine ⟨⟨j + 1, T2, by omega, rfl, hT2s, HI, hid⟩, ?_⟩
          rw [Lib.strSize_string, Lib.strSize_string, HTs.out, hT2s]
          omega
        · obtain rfl : j = m := by omega
          have he7 : e4 = 0 := by omega
          subst he7
          have hT5 := hT.out.trans HFull.out.symm
          clear hT he4 hm hTL hl9 hjm
          subst hT5
          clear hTs
          by_cases e1 : s = T0
          · have hfin := HNY.out.2 (.inl (by rw [e1]))
            have q1 : (s.toList == T0.toList) = true := by rw [e1]; simp
            clear HNY e1
            subst hfin
            go_wp2
            go_ret2
            exact ⟨rfl, HB1.out.trans (hid.out.mono HB1.out.size)⟩
          · have q1 : (s.toList == T0.toList) = false := ba_ne (fun e => e1 (ba_eq e))
            by_cases e2 : s = T
            · have hfin := HNY.out.2 (.inr (by rw [e2]))
              have q2 : (s.toList == T.toList) = true := by rw [e2]; simp
              clear HNY e1 e2
              subst hfin
              go_wp2
              go_ret2
              exact ⟨rfl, HB1.out.trans (hid.out.mono HB1.out.size)⟩
            · have q2 : (s.toList == T.toList) = false := ba_ne (fun e => e2 (ba_eq e))
              have hfin := HNY.out.1 (fun e => e1 (ba_eq e)) (fun e => e2 (ba_eq e))
              clear HNY e1 e2
              subst hfin
              go_wp2
              go_ret2
              exact ⟨rfl, HB1.out.trans (hid.out.mono HB1.out.size)⟩

end Go.Proofs.YthdndbeknmcniaaDoor.B64
