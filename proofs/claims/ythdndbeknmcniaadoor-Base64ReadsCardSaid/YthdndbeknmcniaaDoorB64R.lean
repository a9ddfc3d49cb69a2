/-
  Contracts of the reference's value, Size, Bare and Encode.
-/
import Derived.Test.YthdndbeknmcniaaDoorB64W
namespace Go.Proofs.YthdndbeknmcniaaDoor.B64
open Go.RowKit Utf

theorem rsize_any (n : Int) (w : World) (h : -9223372036854775808 ≤ n ∧ n ≤ 9223372036854775807) : Calls Tryd.prog 11 #[.int .i64 n] w fun e w' => e = .returned (.int .i64 (sizeI n)) ∧ w' = w := by
  obtain ⟨h1, h2⟩ := h
  have hs : sizeI n = (max 0 (min n 1099511627776) + 2) / 3 * 4 := rfl
  rw [hs]
  rcases (show n < 0 ∨ (0 ≤ n ∧ n ≤ 1099511627776) ∨ 1099511627776 < n by omega) with h3 | ⟨h3, h4⟩ | h3
  all_goals
    go_enter Tryd.func11, Tryd.ntmps11
    go_wp2
    go_ret
    refine ⟨congrArg Ending.returned (congrArg (Value.int .i64) ?_), rfl⟩
    omega

/-- what value answers -/
def vlI (c : UInt8) : Int := match vl c with | some v => (v : Int) | none => -1
theorem vl_at (c : UInt8) (k : Nat) (hk : k < 64) (h : ch k = c) (_ : ∀ j, j < k → ch j ≠ c) : vlI c = (k : Int) := by
  have := vl_ch k hk
  rw [h] at this
  rw [vlI, this]
theorem vl_out (c : UInt8) (hn : ∀ j, j < 64 → ch j ≠ c) : vlI c = -1 := by
  unfold vlI
  cases hv : vl c with
  | none => rfl
  | some v =>
    obtain ⟨h1, h2⟩ := ch_vl c v hv
    exact absurd h2 (hn v h1)
theorem u8_eq (a b : UInt8) (h : a ≠ b) : ((a.toNat : Int) == (b.toNat : Int)) = false := by
  rw [beq_eq_false_iff_ne]
  intro e
  exact h (UInt8.toNat_inj.1 (by omega))
set_option maxRecDepth 100000 in
set_option maxHeartbeats 2000000 in
theorem rvalue_any (c : UInt8) (w : World) : Calls Tryd.prog 25 #[.int .u8 (c.toNat : Int)] w fun e w' => e = .returned (.int .i64 (vlI c)) ∧ w' = w := by
  obtain ⟨D, hD⟩ : ∃ D, D = vlI c := ⟨_, rfl⟩
  have HD := Lib.hid hD
  rw [← hD]
  clear hD
  go_enter Tryd.func25, Tryd.ntmps25
  go_wp2_with fail
  go_loopw [3] (fun i wr => ∃ k : Nat, k ≤ 64 ∧ i = .int .i64 k ∧ Hid (∀ j, j < k → ch j ≠ c) ∧ wr = w) (fun i _ => 64 - (intOf i).toNat)
  case atStart => exact ⟨0, by omega, rfl, fun j hj => absurd hj (by omega), rfl⟩
  case round =>
    obtain ⟨k, hk, rfl, hid, rfl⟩ := hrel
    by_cases hk2 : k < 64
    · have hA := alpha_run k hk2
      by_cases hc : ch k = c
      · have hfin := HD.out.trans (vl_at c k hk2 hc hid.out)
        subst hfin
        subst hc
        have he : (((ch k).toNat : Int) == ((ch k).toNat : Int)) = true := by simp
        clear hid HD
        go_wp2
        go_ret
        exact ⟨rfl, rfl⟩
      · have he := u8_eq _ _ hc
        have HI := Lib.hid (show ∀ j, j < k + 1 → ch j ≠ c from fun j hj => by
          rcases (show j < k ∨ j = k by omega) with h | rfl
          · exact hid.out j h
          · exact hc)
        clear hid hc HD
        generalize ch k = x at hA he
        go_wp2
        refine ⟨⟨k + 1, by omega, by go_num, HI, trivial⟩, ?_⟩
        show 64 - ((k : Int) + 1).toNat < 64 - (k : Int).toNat
        omega
    · obtain rfl : k = 64 := by omega
      have hfin := HD.out.trans (vl_out c hid.out)
      subst hfin
      clear HD
      go_wp2
      go_ret
      exact ⟨rfl, rfl⟩

/-- a bit of a list of bytes -/
def bt (l : List UInt8) (k : Nat) : Nat := match l[k / 8]? with | some x => x.toNat / 2 ^ (7 - k % 8) % 2 | none => 0
def nb (l : List UInt8) (bit : Nat) : Nat → Nat
  | 0 => 0
  | i + 1 => 2 * nb l bit i + bt l (bit + i)
theorem bt_lt (l : List UInt8) (k : Nat) : bt l k < 2 := by
  unfold bt
  split <;> omega
theorem nb_lt (l : List UInt8) (bit i : Nat) : nb l bit i < 2 ^ i := by
  induction i with
  | zero => show 0 < 1; omega
  | succ i ih =>
    have := bt_lt l (bit + i)
    rw [nb, Nat.pow_succ]
    omega
theorem bt_shift (x y z : UInt8) (r : List UInt8) (k : Nat) : bt (x :: y :: z :: r) (k + 24) = bt r k := by
  unfold bt
  have e1 : (k + 24) / 8 = k / 8 + 1 + 1 + 1 := by omega
  have e2 : (k + 24) % 8 = k % 8 := by omega
  rw [e1, e2]
  simp
theorem nb_shift (x y z : UInt8) (r : List UInt8) (bit i : Nat) : nb (x :: y :: z :: r) (bit + 24) i = nb r bit i := by
  induction i with
  | zero => rfl
  | succ i ih =>
    rw [nb, nb, ih, show bit + 24 + i = bit + i + 24 by omega, bt_shift]
theorem bits_x (n : Nat) (h : n < 256) : n / 128 % 2 * 32 + n / 64 % 2 * 16 + n / 32 % 2 * 8 + n / 16 % 2 * 4 + n / 8 % 2 * 2 + n / 4 % 2 = n / 4 ∧ n / 2 % 2 * 2 + n % 2 = n % 4 ∧
    n / 128 % 2 * 8 + n / 64 % 2 * 4 + n / 32 % 2 * 2 + n / 16 % 2 = n / 16 ∧ n / 8 % 2 * 8 + n / 4 % 2 * 4 + n / 2 % 2 * 2 + n % 2 = n % 16 ∧ n / 128 % 2 * 2 + n / 64 % 2 = n / 64 ∧
    n / 32 % 2 * 32 + n / 16 % 2 * 16 + n / 8 % 2 * 8 + n / 4 % 2 * 4 + n / 2 % 2 * 2 + n % 2 = n % 64 := by
  refine ⟨?_, ?_, ?_, ?_, ?_, ?_⟩ <;> omega
theorem nb6 (l : List UInt8) (b : Nat) : nb l b 6 = bt l b * 32 + bt l (b + 1) * 16 + bt l (b + 2) * 8 + bt l (b + 3) * 4 + bt l (b + 4) * 2 + bt l (b + 5) := by
  simp only [nb, Nat.add_zero]
  omega
theorem nb_0 (x : UInt8) (r : List UInt8) : nb (x :: r) 0 6 = x.toNat / 4 := by
  rw [nb6]
  simp [bt]
  have := (bits_x x.toNat x.toNat_lt).1
  omega
theorem nb_1a (x : UInt8) : nb [x] 6 6 = x.toNat % 4 * 16 := by
  rw [nb6]
  simp [bt]
  have := (bits_x x.toNat x.toNat_lt).2.1
  omega
theorem nb_1 (x y : UInt8) (r : List UInt8) : nb (x :: y :: r) 6 6 = x.toNat % 4 * 16 + y.toNat / 16 := by
  rw [nb6]
  simp [bt]
  have h1 := (bits_x x.toNat x.toNat_lt).2.1
  have h2 := (bits_x y.toNat y.toNat_lt).2.2.1
  omega
theorem nb_2a (x y : UInt8) : nb [x, y] 12 6 = y.toNat % 16 * 4 := by
  rw [nb6]
  simp [bt]
  have h1 := (bits_x y.toNat y.toNat_lt).2.2.2.1
  omega
theorem nb_2 (x y z : UInt8) (r : List UInt8) : nb (x :: y :: z :: r) 12 6 = y.toNat % 16 * 4 + z.toNat / 64 := by
  rw [nb6]
  simp [bt]
  have h1 := (bits_x y.toNat y.toNat_lt).2.2.2.1
  have h2 := (bits_x z.toNat z.toNat_lt).2.2.2.2.1
  omega
theorem nb_3 (x y z : UInt8) (r : List UInt8) : nb (x :: y :: z :: r) 18 6 = z.toNat % 64 := by
  rw [nb6]
  simp [bt]
  have h1 := (bits_x z.toNat z.toNat_lt).2.2.2.2.2
  omega
theorem nb_enc : ∀ (n : Nat) (l : List UInt8), l.length ≤ n → ∀ j, j < (encV 0 0 l).length → (encV 0 0 l)[j]? = some (nb l (6 * j) 6) := by
  intro n
  induction n with
  | zero =>
    intro l hl j hj
    obtain rfl : l = [] := List.eq_nil_of_length_eq_zero (by omega)
    simp [encV] at hj
  | succ n ih =>
    intro l hl j hj
    match l, hl, hj with
    | [], _, hj => simp [encV] at hj
    | [x], _, hj =>
      simp [encV] at hj
      rcases (show j = 0 ∨ j = 1 by omega) with rfl | rfl
      · rw [nb_0]; simp [encV]
      · rw [nb_1a]; simp [encV]
    | [x, y], _, hj =>
      simp [encV] at hj
      rcases (show j = 0 ∨ j = 1 ∨ j = 2 by omega) with rfl | rfl | rfl
      · rw [nb_0]; simp [encV]
      · rw [nb_1]; simp [encV]
      · rw [nb_2a]; simp [encV]
    | x :: y :: z :: r, hl, hj =>
      have e : encV 0 0 (x :: y :: z :: r) = x.toNat / 4 :: (x.toNat % 4 * 16 + y.toNat / 16) :: (y.toNat % 16 * 4 + z.toNat / 64) :: z.toNat % 64 :: encV 0 0 r := by simp [encV]
      rw [e] at hj ⊢
      rcases (show j = 0 ∨ j = 1 ∨ j = 2 ∨ j = 3 ∨ 4 ≤ j by omega) with rfl | rfl | rfl | rfl | h4
      · rw [nb_0]; rfl
      · rw [nb_1]; rfl
      · rw [nb_2]; rfl
      · rw [nb_3]; rfl
      · obtain ⟨i, rfl⟩ : ∃ i, j = i + 4 := ⟨j - 4, by omega⟩
        rw [show 6 * (i + 4) = 6 * i + 24 by omega, nb_shift]
        have := ih r (by simp at hl; omega) i (by simp at hj; omega)
        simpa using this

theorem pw_run (r : Nat) (hr : r < 8) (w : World) : (Instr.index 69 (.agg #[.int .i64 128, .int .i64 64, .int .i64 32, .int .i64 16, .int .i64 8, .int .i64 4, .int .i64 2, .int .i64 1]) (.int .i64 (r : Int))).run Tryd.prog w = .ok (.int .i64 ((2 ^ (7 - r) : Nat) : Int)) w := by
  rcases (show r = 0 ∨ r = 1 ∨ r = 2 ∨ r = 3 ∨ r = 4 ∨ r = 5 ∨ r = 6 ∨ r = 7 by omega) with rfl | rfl | rfl | rfl | rfl | rfl | rfl | rfl <;> kernel_rfl
theorem get_some' {α : Type} (l : List α) (k : Nat) (h : k < l.length) : ∃ x, l[k]? = some x := ⟨l[k], by simp⟩
set_option maxRecDepth 100000 in
set_option maxHeartbeats 8000000 in
theorem rbare_any (s : ByteArray) (w : World) (hs : s.size ≤ 20000) : Calls Tryd.prog 22 #[.string s] w fun e w' => e = .returned (.string ⟨(bareL s.data.toList).toArray⟩) ∧ Below w.heap.size w w' := by
  obtain ⟨l, hl⟩ : ∃ l, l = s.data.toList := ⟨_, rfl⟩
  have hll : l.length = s.size := by rw [hl]; simp
  obtain ⟨D, hD⟩ : ∃ D : ByteArray, D = ⟨(bareL l).toArray⟩ := ⟨_, rfl⟩
  rw [← hl, ← hD]
  obtain ⟨N, hN⟩ : ∃ N, N = (4 * s.size + 2) / 3 := ⟨_, rfl⟩
  have hNe : (encV 0 0 l).length = N := by rw [(enc_len l).1, hll, hN]
  have HG := Lib.hid (fun j (hj : j < N) => nb_enc l.length l (Nat.le_refl _) j (by rw [hNe]; exact hj))
  have HDl := Lib.hid (show D = ⟨(((encV 0 0 l).take N).map ch).toArray⟩ by rw [hD, List.take_of_length_le (by omega)]; rfl)
  have HL := Lib.hid hl
  have hN1 : 3 * N ≤ 4 * s.size + 2 := by omega
  have hN2 : 4 * s.size ≤ 3 * N := by omega
  clear hD hl hNe hN
  have HLl := Lib.hid hll
  clear hll
  obtain ⟨t0, hi0, hy0, hy1, hy2⟩ := info_parts infoB
  go_enter Tryd.func22, Tryd.ntmps22
  go_wp2_with fail
  go_loopw [3, 4] (fun ov bv wr => ∃ j : Nat, j ≤ N ∧ bv = .int .i64 ((6 * j : Nat) : Int) ∧ Hid (wr.ownsRow w.heap.size 5 1 ov j (cB (((encV 0 0 l).take j).map ch)) ∧ Below w.heap.size w wr)) (fun _ bv _ => 6 * N - (intOf bv).toNat)
  case atStart => exact ⟨0, Nat.zero_le _, rfl, World.ownsRow_nil _ _ _ _, Below.refl _ _⟩
  case round =>
    obtain ⟨j, hj, rfl, hid⟩ := hrel
    obtain ⟨AO, co, hsh, _, _⟩ := own_slice hid.out.1
    subst hsh
    obtain ⟨B, hB⟩ : ∃ B : Nat, B = 6 * j := ⟨_, rfl⟩
    rw [← hB]
    have hB1 : B ≤ 200000 := by omega
    by_cases hlt : j < N
    · have h6 : (B : Int) < 8 * (s.size : Int) := by omega
      have HV := Lib.hid (HG.out j hlt)
      have HB := Lib.hid hB
      clear hB
      go_wp2_with fail
      obtain ⟨wo, hwo⟩ : ∃ wo, wo = wr := ⟨_, rfl⟩
      subst hwo
      go_loopw [5, 6] (fun nv kv wi => ∃ i : Nat, i ≤ 6 ∧ kv = .int .i64 ((B + i : Nat) : Int) ∧ nv = .int .i64 ((nb l B i : Nat) : Int) ∧ Hid (Below wo.heap.size wo wi)) (fun _ kv _ => B + 6 - (intOf kv).toNat)
      case atStart => exact ⟨0, by omega, rfl, rfl, Below.refl _ _⟩
      case round =>
        obtain ⟨i, hi, rfl, rfl, hidi⟩ := hrel
        obtain ⟨K, hK⟩ : ∃ K : Nat, K = B + i := ⟨_, rfl⟩
        rw [← hK]
        have hn9 := nb_lt l B i
        by_cases hi2 : i < 6
        · have h7 : (K : Int) < (B : Int) + 6 := by omega
          have hn8 : nb l B i < 64 := Nat.lt_of_lt_of_le hn9 (Nat.pow_le_pow_right (n := 2) (by omega) hi)
          obtain ⟨p, hp⟩ : ∃ p : Nat, p = K / 8 := ⟨_, rfl⟩
          obtain ⟨r, hr⟩ : ∃ r : Nat, r = K % 8 := ⟨_, rfl⟩
          have hp1 : (K : Int) / 8 = (p : Int) := by omega
          have hr1 : (K : Int) % 8 = (r : Int) := by omega
          have hr8 : r < 8 := by omega
          have HI := Lib.hid (show nb l B (i + 1) = 2 * nb l B i + bt l K by rw [nb, hK])
          obtain ⟨n9, hn⟩ : ∃ n9, n9 = nb l B i := ⟨_, rfl⟩
          rw [← hn] at hn8 HI ⊢
          have HK := Lib.hid hK
          clear hn9 hn hK
          by_cases hps : p < s.size
          · obtain ⟨c, hc⟩ := get_some' l p (by rw [HLl.out]; exact hps)
            have hx := idx_run 9 s p c (by rw [← HL.out]; exact hc) Tryd.underlying9
            have hw := pw_run r hr8
            obtain ⟨d, hd⟩ : ∃ d : Nat, d = 2 ^ (7 - r) := ⟨_, rfl⟩
            have hd1 : 1 ≤ d ∧ d ≤ 128 := by
              rw [hd]; exact ⟨Nat.one_le_two_pow, (by have := Nat.pow_le_pow_right (n := 2) (by omega) (show 7 - r ≤ 7 by omega); exact this)⟩
            have hbt : bt l K = c.toNat / d % 2 := by unfold bt; rw [← hp, hc, ← hr, ← hd]
            rw [hbt] at HI
            rw [← hd] at hw
            have hc1 : (c.toNat : Int) < 256 := by have := c.toNat_lt; omega
            have hd2 : (0 : Int) < d := by omega
            have hd3 : (d : Int) ≠ 0 := by omega
            obtain ⟨q, hq⟩ : ∃ q : Nat, q = c.toNat / d := ⟨_, rfl⟩
            have hq1 : (c.toNat : Int) / (d : Int) = (q : Int) := by rw [hq]; exact Int.natCast_ediv _ _ |>.symm
            have hq2 : q < 256 := by rw [hq]; exact Nat.lt_of_le_of_lt (Nat.div_le_self _ _) c.toNat_lt
            rw [← hq] at HI
            have p1 : (0 : Int) ≤ p := by omega
            have p2 : (p : Int) < s.size := by omega
            have r1 : (0 : Int) ≤ r := by omega
            have r2 : (r : Int) < 8 := by omega
            obtain ⟨e, he⟩ : ∃ e : Nat, e = q % 2 := ⟨_, rfl⟩
            have he1 : (q : Int).tmod 2 = (e : Int) := by rw [Int.tmod_eq_emod_of_nonneg (by omega)]; omega
            have he2 : (q : Int) % 2 = (e : Int) := by omega
            have hr2 : (K : Int).tmod 8 = (r : Int) := by rw [Int.tmod_eq_emod_of_nonneg (by omega)]; omega
            have hp2 : (K : Int).tdiv 8 = (p : Int) := by rw [Int.tdiv_eq_ediv_of_nonneg (by omega)]; omega
            have hq3 : (c.toNat : Int).tdiv (d : Int) = (q : Int) := by rw [Int.tdiv_eq_ediv_of_nonneg (by omega)]; exact hq1
            rw [← he] at HI
            have wp1 : IntKind.i64.wrap (p : Int) = p := IntWalk.i64_in _ (by omega)
            have wr1 : IntKind.i64.wrap (r : Int) = r := IntWalk.i64_in _ (by omega)
            have wc1 : IntKind.i64.wrap (c.toNat : Int) = c.toNat := IntWalk.i64_in _ (by omega)
            have wq1 : IntKind.i64.wrap (q : Int) = q := IntWalk.i64_in _ (by omega)
            clear hbt hc hq hp hr he
            have hd9 : (r = 0 ∧ d = 128) ∨ (r = 1 ∧ d = 64) ∨ (r = 2 ∧ d = 32) ∨ (r = 3 ∧ d = 16) ∨ (r = 4 ∧ d = 8) ∨ (r = 5 ∧ d = 4) ∨ (r = 6 ∧ d = 2) ∨ (r = 7 ∧ d = 1) := by
              rcases (show r = 0 ∨ r = 1 ∨ r = 2 ∨ r = 3 ∨ r = 4 ∨ r = 5 ∨ r = 6 ∨ r = 7 by omega) with h | h | h | h | h | h | h | h <;> subst h <;> simp at hd <;> simp [hd]
            clear hd hd1 hd2 hd3 hr8 r1 r2
            rcases hd9 with ⟨rfl, rfl⟩ | ⟨rfl, rfl⟩ | ⟨rfl, rfl⟩ | ⟨rfl, rfl⟩ | ⟨rfl, rfl⟩ | ⟨rfl, rfl⟩ | ⟨rfl, rfl⟩ | ⟨rfl, rfl⟩
            · have hr1' : (K : Int) % 8 = 0 := hr1
              have hr2' : (K : Int).tmod 8 = 0 := hr2
              have hq1' : (c.toNat : Int) / 128 = (q : Int) := hq1
              have hq3' : (c.toNat : Int).tdiv 128 = (q : Int) := hq3
              have hw' : ∀ W, (Instr.index 69 (.agg #[.int .i64 128, .int .i64 64, .int .i64 32, .int .i64 16, .int .i64 8, .int .i64 4, .int .i64 2, .int .i64 1]) (.int .i64 0)).run Tryd.prog W = .ok (.int .i64 128) W := hw
              clear hr1 hr2 hq1 hq3 hw wr1
              go_wp2_with fail
              go_region_held3 (fun _ => True) (trivial) (fail)
              all_goals
                rename_i K5 hK5 x5
                show K5 _ _
                refine hK5 _ _ ?_
                clear hK5
                go_wp2_with fail
                refine ⟨⟨i + 1, by omega, congrArg (Value.int .i64) (by rw [HK.out]; omega), congrArg (Value.int .i64) (by rw [HI.out]; omega), hidi.out.drew⟩, ?_⟩
                show B + 6 - ((K : Int) + 1).toNat < B + 6 - (K : Int).toNat
                have := HK.out
                omega
            · have hr1' : (K : Int) % 8 = 1 := hr1
              have hr2' : (K : Int).tmod 8 = 1 := hr2
              have hq1' : (c.toNat : Int) / 64 = (q : Int) := hq1
              have hq3' : (c.toNat : Int).tdiv 64 = (q : Int) := hq3
              have hw' : ∀ W, (Instr.index 69 (.agg #[.int .i64 128, .int .i64 64, .int .i64 32, .int .i64 16, .int .i64 8, .int .i64 4, .int .i64 2, .int .i64 1]) (.int .i64 1)).run Tryd.prog W = .ok (.int .i64 64) W := hw
              clear hr1 hr2 hq1 hq3 hw wr1
              go_wp2_with fail
              go_region_held3 (fun _ => True) (trivial) (fail)
              all_goals
                rename_i K5 hK5 x5
                show K5 _ _
                refine hK5 _ _ ?_
                clear hK5
                go_wp2_with fail
                refine ⟨⟨i + 1, by omega, congrArg (Value.int .i64) (by rw [HK.out]; omega), congrArg (Value.int .i64) (by rw [HI.out]; omega), hidi.out.drew⟩, ?_⟩
                show B + 6 - ((K : Int) + 1).toNat < B + 6 - (K : Int).toNat
                have := HK.out
                omega
            · have hr1' : (K : Int) % 8 = 2 := hr1
              have hr2' : (K : Int).tmod 8 = 2 := hr2
              have hq1' : (c.toNat : Int) / 32 = (q : Int) := hq1
              have hq3' : (c.toNat : Int).tdiv 32 = (q : Int) := hq3
              have hw' : ∀ W, (Instr.index 69 (.agg #[.int .i64 128, .int .i64 64, .int .i64 32, .int .i64 16, .int .i64 8, .int .i64 4, .int .i64 2, .int .i64 1]) (.int .i64 2)).run Tryd.prog W = .ok (.int .i64 32) W := hw
              clear hr1 hr2 hq1 hq3 hw wr1
              go_wp2_with fail
              go_region_held3 (fun _ => True) (trivial) (fail)
              all_goals
                rename_i K5 hK5 x5
                show K5 _ _
                refine hK5 _ _ ?_
                clear hK5
                go_wp2_with fail
                refine ⟨⟨i + 1, by omega, congrArg (Value.int .i64) (by rw [HK.out]; omega), congrArg (Value.int .i64) (by rw [HI.out]; omega), hidi.out.drew⟩, ?_⟩
                show B + 6 - ((K : Int) + 1).toNat < B + 6 - (K : Int).toNat
                have := HK.out
                omega
            · have hr1' : (K : Int) % 8 = 3 := hr1
              have hr2' : (K : Int).tmod 8 = 3 := hr2
              have hq1' : (c.toNat : Int) / 16 = (q : Int) := hq1
              have hq3' : (c.toNat : Int).tdiv 16 = (q : Int) := hq3
              have hw' : ∀ W, (Instr.index 69 (.agg #[.int .i64 128, .int .i64 64, .int .i64 32, .int .i64 16, .int .i64 8, .int .i64 4, .int .i64 2, .int .i64 1]) (.int .i64 3)).run Tryd.prog W = .ok (.int .i64 16) W := hw
              clear hr1 hr2 hq1 hq3 hw wr1
              go_wp2_with fail
              go_region_held3 (fun _ => True) (trivial) (fail)
              all_goals
                rename_i K5 hK5 x5
                show K5 _ _
                refine hK5 _ _ ?_
                clear hK5
                go_wp2_with fail
                refine ⟨⟨i + 1, by omega, congrArg (Value.int .i64) (by rw [HK.out]; omega), congrArg (Value.int .i64) (by rw [HI.out]; omega), hidi.out.drew⟩, ?_⟩
                show B + 6 - ((K : Int) + 1).toNat < B + 6 - (K : Int).toNat
                have := HK.out
                omega
            · have hr1' : (K : Int) % 8 = 4 := hr1
              have hr2' : (K : Int).tmod 8 = 4 := hr2
              have hq1' : (c.toNat : Int) / 8 = (q : Int) := hq1
              have hq3' : (c.toNat : Int).tdiv 8 = (q : Int) := hq3
              have hw' : ∀ W, (Instr.index 69 (.agg #[.int .i64 128, .int .i64 64, .int .i64 32, .int .i64 16, .int .i64 8, .int .i64 4, .int .i64 2, .int .i64 1]) (.int .i64 4)).run Tryd.prog W = .ok (.int .i64 8) W := hw
              clear hr1 hr2 hq1 hq3 hw wr1
              go_wp2_with fail
              go_region_held3 (fun _ => True) (trivial) (fail)
              all_goals
                rename_i K5 hK5 x5
                show K5 _ _
                refine hK5 _ _ ?_
                clear hK5
                go_wp2_with fail
                refine ⟨⟨i + 1, by omega, congrArg (Value.int .i64) (by rw [HK.out]; omega), congrArg (Value.int .i64) (by rw [HI.out]; omega), hidi.out.drew⟩, ?_⟩
                show B + 6 - ((K : Int) + 1).toNat < B + 6 - (K : Int).toNat
                have := HK.out
                omega
            · have hr1' : (K : Int) % 8 = 5 := hr1
              have hr2' : (K : Int).tmod 8 = 5 := hr2
              have hq1' : (c.toNat : Int) / 4 = (q : Int) := hq1
              have hq3' : (c.toNat : Int).tdiv 4 = (q : Int) := hq3
              have hw' : ∀ W, (Instr.index 69 (.agg #[.int .i64 128, .int .i64 64, .int .i64 32, .int .i64 16, .int .i64 8, .int .i64 4, .int .i64 2, .int .i64 1]) (.int .i64 5)).run Tryd.prog W = .ok (.int .i64 4) W := hw
              clear hr1 hr2 hq1 hq3 hw wr1
              go_wp2_with fail
              go_region_held3 (fun _ => True) (trivial) (fail)
              all_goals
                rename_i K5 hK5 x5
                show K5 _ _
                refine hK5 _ _ ?_
                clear hK5
                go_wp2_with fail
                refine ⟨⟨i + 1, by omega, congrArg (Value.int .i64) (by rw [HK.out]; omega), congrArg (Value.int .i64) (by rw [HI.out]; omega), hidi.out.drew⟩, ?_⟩
                show B + 6 - ((K : Int) + 1).toNat < B + 6 - (K : Int).toNat
                have := HK.out
                omega
            · have hr1' : (K : Int) % 8 = 6 := hr1
              have hr2' : (K : Int).tmod 8 = 6 := hr2
              have hq1' : (c.toNat : Int) / 2 = (q : Int) := hq1
              have hq3' : (c.toNat : Int).tdiv 2 = (q : Int) := hq3
              have hw' : ∀ W, (Instr.index 69 (.agg #[.int .i64 128, .int .i64 64, .int .i64 32, .int .i64 16, .int .i64 8, .int .i64 4, .int .i64 2, .int .i64 1]) (.int .i64 6)).run Tryd.prog W = .ok (.int .i64 2) W := hw
              clear hr1 hr2 hq1 hq3 hw wr1
              go_wp2_with fail
              go_region_held3 (fun _ => True) (trivial) (fail)
              all_goals
                rename_i K5 hK5 x5
                show K5 _ _
                refine hK5 _ _ ?_
                clear hK5
                go_wp2_with fail
                refine ⟨⟨i + 1, by omega, congrArg (Value.int .i64) (by rw [HK.out]; omega), congrArg (Value.int .i64) (by rw [HI.out]; omega), hidi.out.drew⟩, ?_⟩
                show B + 6 - ((K : Int) + 1).toNat < B + 6 - (K : Int).toNat
                have := HK.out
                omega
            · have hr1' : (K : Int) % 8 = 7 := hr1
              have hr2' : (K : Int).tmod 8 = 7 := hr2
              have hq1' : (c.toNat : Int) / 1 = (q : Int) := hq1
              have hq3' : (c.toNat : Int).tdiv 1 = (q : Int) := hq3
              have hw' : ∀ W, (Instr.index 69 (.agg #[.int .i64 128, .int .i64 64, .int .i64 32, .int .i64 16, .int .i64 8, .int .i64 4, .int .i64 2, .int .i64 1]) (.int .i64 7)).run Tryd.prog W = .ok (.int .i64 1) W := hw
              clear hr1 hr2 hq1 hq3 hw wr1
              go_wp2_with fail
              go_region_held3 (fun _ => True) (trivial) (fail)
              all_goals
                rename_i K5 hK5 x5
                show K5 _ _
                refine hK5 _ _ ?_
                clear hK5
                go_wp2_with fail
                refine ⟨⟨i + 1, by omega, congrArg (Value.int .i64) (by rw [HK.out]; omega), congrArg (Value.int .i64) (by rw [HI.out]; omega), hidi.out.drew⟩, ?_⟩
                show B + 6 - ((K : Int) + 1).toNat < B + 6 - (K : Int).toNat
                have := HK.out
                omega
          · have hbt : bt l K = 0 := by
              unfold bt
              rw [← hp, List.getElem?_eq_none (by rw [HLl.out]; omega)]
            have h8 : ¬ (p : Int) < (s.size : Int) := by omega
            rw [hbt] at HI
            clear hbt hp hr
            go_wp2_with fail
            refine ⟨⟨i + 1, by omega, congrArg (Value.int .i64) (by rw [HK.out]; omega), congrArg (Value.int .i64) (by rw [HI.out]; omega), hidi⟩, ?_⟩
            show B + 6 - ((K : Int) + 1).toNat < B + 6 - (K : Int).toNat
            have := HK.out
            omega
        · obtain rfl : i = 6 := by omega
          have h7 : ¬ (K : Int) < (B : Int) + 6 := by omega
          obtain ⟨v, hv⟩ : ∃ v, v = nb l B 6 := ⟨_, rfl⟩
          rw [← hv] at hn9 ⊢
          have hv64 : v < 64 := hn9
          have har := alpha_run v hv64
          have v0 : (0 : Int) ≤ v := by omega
          have v1 : (v : Int) < 64 := by omega
          have Hs := Lib.hid (show cB (((encV 0 0 l).take (j + 1)).map ch) = cB (((encV 0 0 l).take j).map ch) ++ [.int .u8 ((ch v).toNat : Int)] by
            have he := HV.out
            rw [← HB.out, ← hv] at he
            rw [List.take_add_one, he, List.map_append, cB_append]
            rfl)
          have HOw := Lib.hid (own_below hid.out.1 hidi.out)
          have HBw := Lib.hid (hid.out.2.trans (hidi.out.mono hid.out.2.size))
          have hsz := HBw.out.size
          have hB6 := HB.out
          clear hv hid hidi hn9
          generalize ch v = cc at har Hs
          go_wp2_with (at_builtin; refine wpList_appB _ rfl _ _ 28 rfl w.heap.size 5 t0 _ 1 Tryd.underlying28 hi0 hy0 hy1 hy2 rfl _ j (cB (((encV 0 0 l).take j).map ch)) rfl (own_below HOw.out (below_box _ _)) (some ⟨wr.heap.size, 0, none⟩) 1 1 [.int .u8 (cc.toNat : Int)] rfl rfl (Rd.one _ _ _) (by intro u hu; simp at hu; subst hu; rfl) (by omega) (by decide) (by rw [World.size_alloc]; omega) ?_; intro v' w' hown hgrow; obtain ⟨A2, c2, hsh2, _, _⟩ := own_slice hown; subst hsh2)
          refine ⟨⟨j + 1, by omega, congrArg (Value.int .i64) (by omega), by rw [Hs.out]; exact hown, (HBw.out.trans ((below_box _ _).mono hsz)).trans hgrow⟩, ?_⟩
          show 6 * N - ((6 : Int) * j + 6).toNat < 6 * N - (B : Int).toNat
          omega
    · obtain rfl : j = N := by omega
      have h6 : ¬ (B : Int) < 8 * (s.size : Int) := by omega
      have hcv := str_back hid.out.1
      rw [← HDl.out] at hcv
      have HBw := Lib.hid hid.out.2
      clear hid hB HG
      go_wp2_with fail
      go_ret
      exact ⟨rfl, HBw.out⟩
end Go.Proofs.YthdndbeknmcniaaDoor.B64
