/-
  The walk of the law OscTitles.
-/
import Derived.Test.YtoilcigmpeaedaaGreatDoorOscQ
import Derived.Test.YtoilcigmpeaedaaGreatDoorOscS
namespace Go.Proofs.YtoilcigmpeaedaaGreatDoor.Osc
open Go.RowKit Utf Col

/-- the place k where a title is split: its beginning, or where a code point starts -/
def Sp (S : List UInt8) (k : Nat) : Prop := k = 0 ∨ ∃ b, S[k]? = some b ∧ notc b = true
theorem rconv1 (w : World) (b : UInt8) (z : Int) (h : z = (b.toNat : Int)) :
    (convert 38 9 (.slice (some ⟨w.heap.size, 0, none⟩) 1 1)).run Tryz.prog (w.alloc (.cells #[.int .u8 z] 5)) = .ok (.string ⟨[b].toArray⟩) (w.alloc (.cells #[.int .u8 z] 5)) := by
  subst h
  exact run_str (P := Tryz.prog) _ 38 9 5 _ 1 [b] Tryz.underlying38 Tryz.underlying5 Tryz.underlying9 (Rd.one _ _ _)
set_option maxRecDepth 100000 in
set_option maxHeartbeats 4000000 in
theorem titles_any (A : Option Addr) (cp n : Nat) (zs : List Int) (hn : zs.length = n) (c : UInt8) (at' : UInt16) (w : World) (h : Rd w A (cI zs)) (hz : ∀ z ∈ zs, -9223372036854775808 ≤ z ∧ z ≤ 9223372036854775807) (hl : n ≤ 9223372036854775807) (he : Env w) :
    Calls Tryz.prog 7 #[.slice A n cp, .int .u8 (c.toNat : Int), .int .u16 (at'.toNat : Int)] w fun e w' => e = .returned (.bool true) ∧ Below w.heap.size w w' := by
  have HB := Lib.hid (EB.refl he)
  have HT := Lib.hid (fun W hb => title_any A cp n zs hn W (h.below hb) hz hl)
  have htit := titF_ok zs
  have hlen := titF_len zs
  have HS1 := Lib.hid (show ∀ W, Env W → Calls Tryz.prog 15 #[.string (⟨#[48, 59]⟩ ++ ⟨(titF zs).toArray⟩), actV ⟨44, 0, 0, 0, 0, titF zs⟩] W fun e w' => e = .returned (.bool true) ∧ Below W.heap.size W w' from fun W h => by
    rw [app_l [48, 59] _]; exact says_yes _ _ (par_t _ htit).1 W h)
  have HS2 := Lib.hid (show ∀ W, Env W → Calls Tryz.prog 15 #[.string (⟨#[50, 59]⟩ ++ ⟨(titF zs).toArray⟩), actV ⟨44, 0, 0, 0, 0, titF zs⟩] W fun e w' => e = .returned (.bool true) ∧ Below W.heap.size W w' from fun W h => by
    rw [app_l [50, 59] _]; exact says_yes _ _ (par_t _ htit).2 W h)
  have HR := Lib.hid (show ∀ W, Calls Tryz.prog 19 #[.string ⟨#[120]⟩, .int .i64 511] W fun e w' => e = .returned (.string ⟨(List.replicate 511 120).toArray⟩) ∧ Below W.heap.size W w' from fun W => rep_any 120 511 (by decide) W)
  have HN3 := Lib.hid (show ∀ W, Env W → Calls Tryz.prog 18 #[.string (⟨#[50, 59]⟩ ++ ⟨(titF zs).toArray⟩ ++ ⟨(List.replicate 511 120).toArray⟩)] W fun e w' => e = .returned (.bool true) ∧ Below W.heap.size W w' from fun W h => by
    rw [app_l [50, 59] _, app_l]; exact none_yes _ (par_long _ (by simp only [List.length_append, List.length_cons, List.length_replicate]; omega)) W h)
  have HC3 := Lib.hid (cut_c3 zs)
  have HCT := Lib.hid (fun k (x : UInt8) (hx : x.toNat < 32) => tit_ctl ((titF zs).take k) x ((titF zs).drop k) hx)
  obtain ⟨X, hX⟩ : ∃ X, X = List.replicate 511 (120 : UInt8) := ⟨_, rfl⟩
  have hXl : X.length = 511 := by rw [hX, List.length_replicate]
  rw [← hX] at HR HN3
  generalize titF zs = S at HT HS1 HS2 HN3 HC3 HCT htit hlen
  have hS := hlen
  have hc0 : (c.toNat : Int) < 256 := by have := c.toNat_lt; omega
  have ha0 : (at'.toNat : Int) ≤ 65535 := by have := at'.toNat_lt; omega
  have hl1 : ¬ 9223372036854775807 < 2 + S.length := by omega
  generalize at'.toNat = p at ha0 ⊢
  generalize c.toNat = d at hc0 ⊢
  obtain ⟨m, hm1⟩ : ∃ m : Nat, (p : Int) % 600 = (m : Int) := ⟨p % 600, by omega⟩
  have hm9 : (m : Int) < 600 := by omega
  have hm8 : (p : Int).tmod 600 = (m : Int) := by rw [Int.tmod_eq_emod_of_nonneg (by omega)]; exact hm1
  obtain ⟨x, hx2⟩ : ∃ x : UInt8, x.toNat = d % 32 := ⟨UInt8.ofNat (d % 32), by rw [UInt8.toNat_ofNat']; omega⟩
  have hx : x.toNat < 32 := by omega
  have hx3 : (d : Int) % 32 = (x.toNat : Int) := by omega
  have HX := Lib.hid (And.intro hx hx3)
  clear hX htit hlen h hz hl he hx2 hx hx3 hm1
  go_enter Tryz.func7, Tryz.ntmps7
  go_wp2_with fail
  refine (works_any _ HB.out.e).mono ?_
  rintro e w1 ⟨rfl, hb1⟩
  have HB := Lib.hid (HB.out.keep hb1)
  have hb1' := Lib.hid hb1
  clear hb1
  go_wp2_with fail
  refine (HT.out _ hb1'.out).mono ?_
  rintro e w2 ⟨rfl, hb2⟩
  have HB := Lib.hid (HB.out.keep hb2)
  clear hb2
  go_wp2_with fail
  refine (titled_any S _).mono ?_
  rintro e w3 ⟨rfl, hb3⟩
  have HB := Lib.hid (HB.out.keep hb3)
  clear hb3
  go_wp2_with fail
  refine (HS1.out _ HB.out.e).mono ?_
  rintro e w4 ⟨rfl, hb4⟩
  have HB := Lib.hid (HB.out.keep hb4)
  clear hb4
  go_wp2_with fail
  refine (titled_any S _).mono ?_
  rintro e w5 ⟨rfl, hb5⟩
  have HB := Lib.hid (HB.out.keep hb5)
  clear hb5
  go_wp2_with fail
  refine (HS2.out _ HB.out.e).mono ?_
  rintro e w6 ⟨rfl, hb6⟩
  have HB := Lib.hid (HB.out.keep hb6)
  clear hb6 HS1 HS2 HT
  go_wp2_with fail
  go_loopw [8, 9] (fun kv iv wr => ∃ k i : Nat, i ≤ S.length ∧ k ≤ S.length ∧ kv = .int .i64 (k : Int) ∧ iv = .int .i64 (i : Int) ∧ Hid (Sp S k) ∧ Hid (wr = w6)) (fun _ iv _ => S.length - (intOf iv).toNat)
  case atStart => exact ⟨0, 0, by omega, by omega, rfl, rfl, Lib.hid (.inl rfl), Lib.hid rfl⟩
  case round =>
    obtain ⟨k, i, hi, hkS, rfl, rfl, hp, hwr⟩ := hrel
    by_cases hi2 : i < S.length
    · obtain ⟨b, hb⟩ : ∃ b, S[i]? = some b := ⟨S[i]'hi2, List.getElem?_eq_getElem hi2⟩
      have hx9 := fun W => B64.idx_run 9 ⟨S.toArray⟩ i b (by simpa using hb) Tryz.underlying9 W
      by_cases him : i ≤ m
      · have d1 : decide (i ≤ m) = true := decide_eq_true him
        have hb0 : b.toNat < 256 := b.toNat_lt
        by_cases h128 : b.toNat < 128
        · have hp2 := Lib.hid (show Sp S i from .inr ⟨b, hb, notc_first b (.inl h128)⟩)
          have d2 : decide ((b.toNat : Int) < 128) = true := decide_eq_true (by omega)
          clear hb him h128 hp HC3 HCT
          go_wp2_with fail
          refine ⟨⟨i, i + 1, by omega, by omega, rfl, by go_num, hp2, hwr⟩, ?_⟩
          show S.length - ((i : Int) + 1).toNat < S.length - (i : Int).toNat
          omega
        · have d2 : decide ((b.toNat : Int) < 128) = false := decide_eq_false (by omega)
          by_cases h192 : 192 ≤ b.toNat
          · have hp2 := Lib.hid (show Sp S i from .inr ⟨b, hb, notc_first b (.inr h192)⟩)
            have d3 : decide ((192 : Int) ≤ (b.toNat : Int)) = true := decide_eq_true (by omega)
            clear hb him h128 h192 hp HC3 HCT
            go_wp2_with fail
            refine ⟨⟨i, i + 1, by omega, by omega, rfl, by go_num, hp2, hwr⟩, ?_⟩
            show S.length - ((i : Int) + 1).toNat < S.length - (i : Int).toNat
            omega
          · have d3 : decide ((192 : Int) ≤ (b.toNat : Int)) = false := decide_eq_false (by omega)
            clear hb him h128 h192 HC3 HCT
            go_wp2_with fail
            refine ⟨⟨k, i + 1, by omega, by omega, rfl, by go_num, hp, hwr⟩, ?_⟩
            show S.length - ((i : Int) + 1).toNat < S.length - (i : Int).toNat
            omega
      · have d1 : decide (i ≤ m) = false := decide_eq_false him
        clear hb hx9 him
        have hsp := hp.out
        have hx := HX.out.1
        have hx3 := HX.out.2
        have hk9 : k ≤ S.length := hkS
        obtain ⟨F, hF⟩ : ∃ F, F = S.take k := ⟨_, rfl⟩
        obtain ⟨R, hR⟩ : ∃ R, R = S.drop k := ⟨_, rfl⟩
        have hFR : F.length + R.length = S.length := by rw [hF, hR, List.length_take, List.length_drop]; omega
        have e1 : (⟨S.toArray⟩ : ByteArray).extract 0 k = ⟨F.toArray⟩ := by rw [hF]; exact (ext_front ⟨S.toArray⟩ k).symm
        have e2 : (⟨S.toArray⟩ : ByteArray).extract k S.length = ⟨R.toArray⟩ := by rw [hR]; have := (ext_back ⟨S.toArray⟩ k).symm; rwa [Lib.size_mk] at this
        have h3 := HC3.out k hsp
        have h4 := HCT.out k x hx
        rw [← hF, ← hR] at h3 h4
        obtain ⟨O, hO⟩ : ∃ O, O = F ++ x :: R := ⟨_, rfl⟩
        obtain ⟨C, hC⟩ : ∃ C, C = F ++ 195 :: R := ⟨_, rfl⟩
        have hOl : O.length = S.length + 1 := by rw [hO, List.length_append, List.length_cons]; omega
        have hCl : C.length = S.length + 1 := by rw [hC, List.length_append, List.length_cons]; omega
        have g1 : (⟨F.toArray⟩ : ByteArray) ++ ⟨[x].toArray⟩ ++ ⟨R.toArray⟩ = ⟨O.toArray⟩ := by rw [app_l F [x], app_l, hO]; simp
        have g2 : (⟨F.toArray⟩ : ByteArray) ++ ⟨#[195]⟩ ++ ⟨R.toArray⟩ = ⟨C.toArray⟩ := by rw [app_l F [195], app_l, hC]; simp
        rw [← hO] at h4
        rw [← hC] at h3
        have HN1 := Lib.hid (show ∀ W, Env W → Calls Tryz.prog 18 #[.string (⟨#[48, 59]⟩ ++ ⟨O.toArray⟩)] W fun e w' => e = .returned (.bool true) ∧ Below W.heap.size W w' from fun W h => by rw [app_l [48, 59] O]; exact none_yes _ (par_0 _ h4) W h)
        have HN2 := Lib.hid (show ∀ W, Env W → Calls Tryz.prog 18 #[.string (⟨#[50, 59]⟩ ++ ⟨C.toArray⟩)] W fun e w' => e = .returned (.bool true) ∧ Below W.heap.size W w' from fun W h => by rw [app_l [50, 59] C]; exact none_yes _ (par_2 _ h3) W h)
        have q5 : ¬ 9223372036854775807 < 2 + O.length := by omega
        have q6 : ¬ 9223372036854775807 < 2 + C.length := by omega
        have q7 : ¬ 9223372036854775807 < 2 + S.length + X.length := by omega
        have G1 := Lib.hid g1
        have G2 := Lib.hid g2
        have q1 : (0 : Int) ≤ (k : Int) := by omega
        have q2 : (k : Int) ≤ (S.length : Int) := by omega
        have q3 : ¬ 9223372036854775807 < F.length + 1 := by omega
        have q4 : ¬ 9223372036854775807 < F.length + 1 + R.length := by omega
        have hcv := (show (convert 38 9 (.slice (some ⟨wr.heap.size, 0, none⟩) 1 1)).run Tryz.prog (wr.alloc (.cells #[.int .u8 (x.toNat : Int)] 5)).drew = .ok (.string ⟨[x].toArray⟩) (wr.alloc (.cells #[.int .u8 (x.toNat : Int)] 5)).drew from rconv1 wr.drew x _ rfl)
        have hx4 : (d : Int).tmod 32 = (x.toNat : Int) := by rw [Int.tmod_eq_emod_of_nonneg (by omega)]; exact hx3
        have hx5 : (x.toNat : Int) < 32 := by omega
        have hFl : F.length = k := by rw [hF, List.length_take]; omega
        have hRl : R.length = S.length - k := by rw [hR, List.length_drop]
        clear hp hsp hF hR h3 h4 HC3 HCT hkS hx3 hx hO hC g1 g2 hOl hCl
        go_upto_region 12 with fail
        go_region
        rw [G1.out]
        have HB2 := Lib.hid (show EB w ((wr.alloc (.cells #[.int .u8 (x.toNat : Int)] 5)).drew) from (by rw [hwr.out]; exact (HB.out.keep (B64.below_box _ _)).keep (Below.refl _ _).drew))
        generalize ((wr.alloc (.cells #[.int .u8 (x.toNat : Int)] 5)).drew) = W1 at HB2 ⊢
        clear hcv HB hwr
        have HB := HB2
        clear HB2
        go_upto_region 13 with fail
        go_region
        rw [G2.out]
        have HB := Lib.hid (HB.out.keep (Below.refl _ _).drew)
        generalize W1.drew = W2 at HB ⊢
        go_wp2_with fail
        refine (HN1.out _ HB.out.e).mono ?_
        rintro e w7 ⟨rfl, hb7⟩
        have HB := Lib.hid (HB.out.keep hb7)
        clear hb7
        go_wp2_with fail
        refine (HN2.out _ HB.out.e).mono ?_
        rintro e w8 ⟨rfl, hb8⟩
        have HB := Lib.hid (HB.out.keep hb8)
        clear hb8
        go_wp2_with fail
        refine (HR.out _).mono ?_
        rintro e w9 ⟨rfl, hb9⟩
        have HB := Lib.hid (HB.out.keep hb9)
        clear hb9
        go_wp2_with fail
        refine (HN3.out _ HB.out.e).mono ?_
        rintro e w10 ⟨rfl, hb10⟩
        have HB := Lib.hid (HB.out.keep hb10)
        clear hb10
        go_wp2_with fail
        go_ret
        exact ⟨rfl, HB.out.b⟩
    · obtain rfl : i = S.length := by omega
      have hsp := hp.out
      have hx := HX.out.1
      have hx3 := HX.out.2
      have hk9 : k ≤ S.length := hkS
      obtain ⟨F, hF⟩ : ∃ F, F = S.take k := ⟨_, rfl⟩
      obtain ⟨R, hR⟩ : ∃ R, R = S.drop k := ⟨_, rfl⟩
      have hFR : F.length + R.length = S.length := by rw [hF, hR, List.length_take, List.length_drop]; omega
      have e1 : (⟨S.toArray⟩ : ByteArray).extract 0 k = ⟨F.toArray⟩ := by rw [hF]; exact (ext_front ⟨S.toArray⟩ k).symm
      have e2 : (⟨S.toArray⟩ : ByteArray).extract k S.length = ⟨R.toArray⟩ := by rw [hR]; have := (ext_back ⟨S.toArray⟩ k).symm; rwa [Lib.size_mk] at this
      have h3 := HC3.out k hsp
      have h4 := HCT.out k x hx
      rw [← hF, ← hR] at h3 h4
      obtain ⟨O, hO⟩ : ∃ O, O = F ++ x :: R := ⟨_, rfl⟩
      obtain ⟨C, hC⟩ : ∃ C, C = F ++ 195 :: R := ⟨_, rfl⟩
      have hOl : O.length = S.length + 1 := by rw [hO, List.length_append, List.length_cons]; omega
      have hCl : C.length = S.length + 1 := by rw [hC, List.length_append, List.length_cons]; omega
      have g1 : (⟨F.toArray⟩ : ByteArray) ++ ⟨[x].toArray⟩ ++ ⟨R.toArray⟩ = ⟨O.toArray⟩ := by rw [app_l F [x], app_l, hO]; simp
      have g2 : (⟨F.toArray⟩ : ByteArray) ++ ⟨#[195]⟩ ++ ⟨R.toArray⟩ = ⟨C.toArray⟩ := by rw [app_l F [195], app_l, hC]; simp
      rw [← hO] at h4
      rw [← hC] at h3
      have HN1 := Lib.hid (show ∀ W, Env W → Calls Tryz.prog 18 #[.string (⟨#[48, 59]⟩ ++ ⟨O.toArray⟩)] W fun e w' => e = .returned (.bool true) ∧ Below W.heap.size W w' from fun W h => by rw [app_l [48, 59] O]; exact none_yes _ (par_0 _ h4) W h)
      have HN2 := Lib.hid (show ∀ W, Env W → Calls Tryz.prog 18 #[.string (⟨#[50, 59]⟩ ++ ⟨C.toArray⟩)] W fun e w' => e = .returned (.bool true) ∧ Below W.heap.size W w' from fun W h => by rw [app_l [50, 59] C]; exact none_yes _ (par_2 _ h3) W h)
      have q5 : ¬ 9223372036854775807 < 2 + O.length := by omega
      have q6 : ¬ 9223372036854775807 < 2 + C.length := by omega
      have q7 : ¬ 9223372036854775807 < 2 + S.length + X.length := by omega
      have G1 := Lib.hid g1
      have G2 := Lib.hid g2
      have q1 : (0 : Int) ≤ (k : Int) := by omega
      have q2 : (k : Int) ≤ (S.length : Int) := by omega
      have q3 : ¬ 9223372036854775807 < F.length + 1 := by omega
      have q4 : ¬ 9223372036854775807 < F.length + 1 + R.length := by omega
      have hcv := (show (convert 38 9 (.slice (some ⟨wr.heap.size, 0, none⟩) 1 1)).run Tryz.prog (wr.alloc (.cells #[.int .u8 (x.toNat : Int)] 5)).drew = .ok (.string ⟨[x].toArray⟩) (wr.alloc (.cells #[.int .u8 (x.toNat : Int)] 5)).drew from rconv1 wr.drew x _ rfl)
      have hx4 : (d : Int).tmod 32 = (x.toNat : Int) := by rw [Int.tmod_eq_emod_of_nonneg (by omega)]; exact hx3
      have hx5 : (x.toNat : Int) < 32 := by omega
      have hFl : F.length = k := by rw [hF, List.length_take]; omega
      have hRl : R.length = S.length - k := by rw [hR, List.length_drop]
      clear hp hsp hF hR h3 h4 HC3 HCT hkS hx3 hx hO hC g1 g2 hOl hCl
      go_upto_region 12 with fail
      go_region
      rw [G1.out]
      have HB2 := Lib.hid (show EB w ((wr.alloc (.cells #[.int .u8 (x.toNat : Int)] 5)).drew) from (by rw [hwr.out]; exact (HB.out.keep (B64.below_box _ _)).keep (Below.refl _ _).drew))
      generalize ((wr.alloc (.cells #[.int .u8 (x.toNat : Int)] 5)).drew) = W1 at HB2 ⊢
      clear hcv HB hwr
      have HB := HB2
      clear HB2
      go_upto_region 13 with fail
      go_region
      rw [G2.out]
      have HB := Lib.hid (HB.out.keep (Below.refl _ _).drew)
      generalize W1.drew = W2 at HB ⊢
      go_wp2_with fail
      refine (HN1.out _ HB.out.e).mono ?_
      rintro e w7 ⟨rfl, hb7⟩
      have HB := Lib.hid (HB.out.keep hb7)
      clear hb7
      go_wp2_with fail
      refine (HN2.out _ HB.out.e).mono ?_
      rintro e w8 ⟨rfl, hb8⟩
      have HB := Lib.hid (HB.out.keep hb8)
      clear hb8
      go_wp2_with fail
      refine (HR.out _).mono ?_
      rintro e w9 ⟨rfl, hb9⟩
      have HB := Lib.hid (HB.out.keep hb9)
      clear hb9
      go_wp2_with fail
      refine (HN3.out _ HB.out.e).mono ?_
      rintro e w10 ⟨rfl, hb10⟩
      have HB := Lib.hid (HB.out.keep hb10)
      clear hb10
      go_wp2_with fail
      go_ret
      exact ⟨rfl, HB.out.b⟩
end Go.Proofs.YtoilcigmpeaedaaGreatDoor.Osc
