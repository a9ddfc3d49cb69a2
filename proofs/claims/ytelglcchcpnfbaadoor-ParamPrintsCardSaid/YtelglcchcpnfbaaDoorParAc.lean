/-
  Contract of the reference's Print.
-/
import Derived.Test.YtelglcchcpnfbaaDoorParAb
import Derived.Test.YtelglcchcpnfbaaDoorParU
import Derived.Test.YtelglcchcpnfbaaDoorParK
namespace Go.Proofs.YtelglcchcpnfbaaDoor.Par
open Go.RowKit Utf

def semi (i : Nat) : List UInt8 := if 0 < i then [59] else []
def colon (j : Nat) : List UInt8 := if 0 < j then [58] else []
def nmb (z : Int) : List UInt8 := if z = -1 then [] else Lib.itoa z
def bod : Nat → List Int → List UInt8
  | _, [] => []
  | j, z :: r => colon j ++ nmb z ++ bod (j + 1) r
theorem bod_take (j : Nat) (p : List Int) (k : Nat) (z : Int) (h : p[k]? = some z) : bod j (p.take (k + 1)) = bod j (p.take k) ++ (colon (j + k) ++ nmb z) := by
  induction p generalizing j k with
  | nil => simp at h
  | cons x r ih =>
    cases k with
    | zero => simp at h; subst h; simp [bod]
    | succ k =>
      simp only [List.getElem?_cons_succ] at h
      rw [List.take_succ_cons, List.take_succ_cons, bod, bod, ih (j + 1) k h, show j + 1 + k = j + (k + 1) by omega]
      simp
theorem items_bod (i j : Nat) (p : List Int) (hj : 0 < j) : (itemsP i j p).flatMap prtI = bod j p := by
  induction p generalizing j with
  | nil => rfl
  | cons z r ih =>
    rw [itemsP, bod, List.flatMap_cons, ih (j + 1) (by omega)]
    simp [prtI, sepL, hj, colon, nmb]
theorem items_row (i : Nat) (p : List Int) (hp : p ≠ []) : (itemsP i 0 p).flatMap prtI = semi i ++ bod 0 p := by
  match p, hp with
  | z :: r, _ =>
    rw [itemsP, bod, List.flatMap_cons, items_bod i 1 r (by decide)]
    simp [prtI, sepL, semi, colon, nmb]
/-- the text of the first rows -/
def txt (l : List (List Int)) (i : Nat) : List UInt8 := (itemsL 0 (l.take i)).flatMap prtI
theorem txt_succ (l : List (List Int)) (i : Nat) (p : List Int) (h : l[i]? = some p) (hp : p ≠ []) : txt l (i + 1) = txt l i ++ semi i ++ bod 0 p := by
  unfold txt
  rw [itemsL_take 0 l i p h, List.flatMap_append, Nat.zero_add, items_row i p hp, List.append_assoc]
theorem num_len (z : Int) (h0 : -1 ≤ z) (h1 : z ≤ 9999) : (nmb z).length ≤ 4 := by
  unfold nmb
  split
  · simp
  · exact itoa_len z (by omega) h1
theorem bod_len (j : Nat) (p : List Int) (h : ∀ z ∈ p, -1 ≤ z ∧ z ≤ 9999) : (bod j p).length ≤ 5 * p.length := by
  induction p generalizing j with
  | nil => simp [bod]
  | cons z r ih =>
    have h1 := ih (j + 1) (fun x hx => h x (by simp [hx]))
    have h2 := num_len z (h z (by simp)).1 (h z (by simp)).2
    have h3 : (colon j).length ≤ 1 := by unfold colon; split <;> simp
    rw [bod, List.length_append, List.length_append, List.length_cons]; omega
theorem txt_len (l : List (List Int)) (i : Nat) (hi : isBad l = false) : (txt l i).length ≤ 31 * i := by
  induction i with
  | zero => simp [txt, itemsL]
  | succ i ih =>
    by_cases h : i < l.length
    · obtain ⟨p, hp⟩ := get_some l i h
      have hm := (bad_no hi).2.1 p (List.mem_of_getElem? hp)
      rw [txt_succ l i p hp (by rintro rfl; simp at hm), List.length_append, List.length_append]
      have h1 := bod_len 0 p hm.2.2
      have h2 : (semi i).length ≤ 1 := by unfold semi; split <;> simp
      omega
    · have : txt l (i + 1) = txt l i := by unfold txt; rw [List.take_of_length_le (by omega), List.take_of_length_le (by omega)]
      rw [this]; omega
theorem txt_all (l : List (List Int)) : txt l l.length = prtL l := by unfold txt prtL; rw [List.take_length]
theorem num_pos (z : Int) (h : 0 ≤ z) : nmb z = Lib.decDigits z.toNat := by
  unfold nmb Lib.itoa
  rw [if_neg (by omega), if_neg (by omega)]
theorem bytes_app (s t : ByteArray) : (s ++ t).data.toList = s.data.toList ++ t.data.toList := by
  rw [ByteArray.data_append]; simp
set_option maxRecDepth 100000 in
set_option maxHeartbeats 2000000 in
theorem rprint_bad (v : Value) (l : List (List Int)) (w : World) (h : RL w v l) (hl : l.length ≤ 1000000) (hb : chkV l = 150) :
    Calls Tryd.prog 13 #[v] w fun e w' => e = .returned (.tuple #[.string ⟨#[]⟩, .int .i64 150]) ∧ Below w.heap.size w w' := by
  have HK := Lib.hid (rcheck_any v l w h hl)
  rw [hb] at HK
  obtain ⟨A, c, rfl⟩ := h.form
  obtain ⟨n, hn⟩ : ∃ n, n = l.length := ⟨_, rfl⟩
  rw [← hn] at HK ⊢
  clear h hl hb hn
  go_enter Tryd.func13, Tryd.ntmps13
  go_wp2_with (go_at_call 15; refine HK.out.mono ?_; rintro e w1 ⟨rfl, hb1⟩)
  go_ret2
  exact ⟨rfl, hb1⟩
set_option maxRecDepth 100000 in
set_option maxHeartbeats 8000000 in
theorem rprint_ok (v : Value) (l : List (List Int)) (w : World) (h : RL w v l) (hi : isBad l = false) :
    Calls Tryd.prog 13 #[v] w fun e w' => e = .returned (.tuple #[.string ⟨(prtL l).toArray⟩, .int .i64 0]) ∧ Below w.heap.size w w' := by
  obtain ⟨hn1, hn2, _⟩ := bad_no hi
  have HK := Lib.hid (rcheck_any v l w h (by omega))
  rw [show chkV l = 0 by unfold chkV; rw [hi]; rfl] at HK
  have HI := Lib.hid hi
  obtain ⟨A, c, rfl⟩ := h.form
  obtain ⟨n, hn⟩ : ∃ n, n = l.length := ⟨_, rfl⟩
  rw [← hn] at h hn1 HK ⊢
  have HL := Lib.hid h
  have Hn := Lib.hid hn
  have H2 := Lib.hid hn2
  clear h hn hn2 hi
  go_enter Tryd.func13, Tryd.ntmps13
  go_wp2_with (go_at_call 15; refine HK.out.mono ?_; rintro e w1 ⟨rfl, hb1⟩)
  go_loopw [5, 4] (fun iv sv wr => ∃ (i : Nat) (s : ByteArray), i ≤ n ∧ iv = .int .i64 i ∧ sv = .string s ∧ s.size ≤ 600 ∧ Hid (s.data.toList = txt l i ∧ Below w.heap.size w wr)) (fun iv _ _ => n - (intOf iv).toNat)
  case atStart => exact ⟨0, ⟨#[]⟩, Nat.zero_le _, rfl, rfl, by decide, by simp [txt, itemsL], hb1⟩
  case round =>
    obtain ⟨i, s, hin, rfl, rfl, hs6, hid⟩ := hrel
    obtain ⟨W0, hW0⟩ : ∃ W0, W0 = wr := ⟨_, rfl⟩
    subst hW0
    by_cases hlt : i < n
    · obtain ⟨p, hp⟩ := get_some l i (by rw [← Hn.out]; exact hlt)
      obtain ⟨ad, XA, xc, rfl, hal, hcx, hxc, hrx⟩ := HL.out.item hp
      have hcx1 := (hid.out.2.cell (p := ad.add i) (by rw [add_block]; exact hal)).trans hcx
      obtain ⟨m, hm⟩ : ∃ m, m = p.length := ⟨_, rfl⟩
      have hmm := H2.out p (List.mem_of_getElem? hp)
      rw [← hm] at hcx1 hxc hmm
      have hm1 := hmm.1
      have hm6 := hmm.2.1
      have HZ := Lib.hid hmm.2.2
      have HP := Lib.hid hp
      have HM := Lib.hid hm
      have HX := Lib.hid hrx
      clear hp hm hrx hcx hmm
      have i1 : (0 : Int) ≤ (i : Int) := by omega
      have i2 : (i : Int) < (n : Int) := by omega
      have c1 : decide ((i : Int) < (n : Int)) = true := decide_eq_true (by omega)
      have hne : p ≠ [] := by have := HM.out; rintro rfl; simp at this; omega
      have HN := Lib.hid hne
      clear hne
      have s1 : ¬ 9223372036854775807 < s.size + 1 := by omega
      have HS := Lib.hid hid.out.1
      by_cases hi0 : 0 < i
      · have c0 : decide ((0 : Int) < (i : Int)) = true := decide_eq_true (by omega)
        have hsm : semi i = [59] := by unfold semi; rw [if_pos hi0]
        have HSM := Lib.hid hsm
        clear hsm
        go_wp2
        go_loopw [6, 4] (fun kv sv wi => ∃ (j : Nat) (t : ByteArray), j ≤ m ∧ kv = .int .i64 j ∧ sv = .string t ∧ t.size ≤ 700 ∧ Hid (t.data.toList = txt l i ++ semi i ++ bod 0 (p.take j) ∧ Below w.heap.size w wi)) (fun kv _ _ => m - (intOf kv).toNat)
        case atStart =>
          refine ⟨0, _, Nat.zero_le _, rfl, rfl, ?_, ?_, hid.out.2⟩
          · rw [ByteArray.size_append]; show s.size + 1 ≤ 700; omega
          · rw [bytes_app, hid.out.1, HSM.out]; simp [bod]
        case round =>
          obtain ⟨j, t, hj, rfl, rfl, ht7, hin⟩ := hrel
          have hcx2 := (hin.out.2.cell (p := ad.add i) (by rw [add_block]; exact hal)).trans ((hid.out.2.cell (p := ad.add i) (by rw [add_block]; exact hal)).symm.trans hcx1)
          by_cases hjt : j < m
          · obtain ⟨z, hz⟩ := get_some p j (by rw [← HM.out]; exact hjt)
            obtain ⟨xd, rfl, _, hxj⟩ := (HX.out.below hin.out.2) j _ (cI_at p j z hz)
            have hzz := HZ.out z (List.mem_of_getElem? hz)
            have hz1 := hzz.1
            have hz2 := hzz.2
            have Hz := Lib.hid hz
            clear hz hzz hcx1
            have j1 : (0 : Int) ≤ (j : Int) := by omega
            have j2 : (j : Int) < (m : Int) := by omega
            have c2 : decide ((j : Int) < (m : Int)) = true := decide_eq_true (by omega)
            have s2 : ¬ 9223372036854775807 < t.size + 1 := by omega
            have hbd : (bod 0 (p.take (j + 1))).length ≤ 30 := by
              have := bod_len 0 (p.take (j + 1)) (fun z hz => HZ.out z (List.mem_of_mem_take hz))
              have h2 : (p.take (j + 1)).length ≤ 6 := by rw [List.length_take]; omega
              omega
            have hsl : (txt l i ++ semi i).length ≤ 601 := by
              have h1 : (semi i).length ≤ 1 := by unfold semi; split <;> simp
              have h2 := hid.out.1
              have h3 : s.data.toList.length = s.size := by simp
              rw [h2] at h3
              rw [List.length_append]; omega
            have hfin : ∀ t' : ByteArray, t'.data.toList = t.data.toList ++ (colon j ++ nmb z) → t'.data.toList = txt l i ++ semi i ++ bod 0 (p.take (j + 1)) ∧ t'.size ≤ 700 := fun t' ht' => by
              have h4 : t'.data.toList = txt l i ++ semi i ++ bod 0 (p.take (j + 1)) := by rw [ht', hin.out.1, bod_take 0 p j z Hz.out, Nat.zero_add, List.append_assoc]
              have h5 : t'.data.toList.length = t'.size := by simp
              rw [h4, List.length_append] at h5
              exact ⟨h4, by omega⟩
            have HF := Lib.hid hfin
            clear hbd hsl hfin
            by_cases hj0 : 0 < j
            · have c3 : decide ((0 : Int) < (j : Int)) = true := decide_eq_true (by omega)
              have hco : colon j = [58] := by unfold colon; rw [if_pos hj0]
              have HCO := Lib.hid hco
              clear hco
              by_cases hz0 : 0 ≤ z
              · have c4 : decide ((0 : Int) ≤ z) = true := decide_eq_true hz0
                obtain ⟨u, rfl⟩ : ∃ u : Nat, z = (u : Int) := ⟨z.toNat, by omega⟩
                have HD := Lib.hid (digits_any u (by omega))
                obtain ⟨D, hD⟩ : ∃ D : ByteArray, D = ⟨(Lib.decDigits u).toArray⟩ := ⟨_, rfl⟩
                have hDz : D.size ≤ 4 := by
                  have h5 : D.data.toList.length = D.size := by simp
                  rw [hD] at h5
                  have h6 := num_len (u : Int) (by omega) hz2
                  rw [num_pos _ (by omega), show (u : Int).toNat = u by omega] at h6
                  rw [hD]
                  simp at h5 ⊢
                  omega
                rw [← hD] at HD
                have HDD := Lib.hid hD
                clear hD
                have s3 : ¬ 9223372036854775807 < t.size + 1 + D.size := by omega
                go_wp2_with (go_at_call 27; refine (HD.out _).mono ?_; rintro e w2 ⟨rfl, hb2⟩)
                have hl := HF.out (t ++ ⟨#[58]⟩ ++ D) (by rw [bytes_app, bytes_app, HCO.out, num_pos _ (by omega), show (u : Int).toNat = u by omega, HDD.out]; simp)
                exact ⟨⟨j + 1, _, by omega, by go_num, rfl, hl.2, hl.1, up hin.out.2 hb2⟩, by simp [intOf]; omega⟩
              · have c4 : decide ((0 : Int) ≤ z) = false := decide_eq_false hz0
                obtain rfl : z = -1 := by omega
                go_wp2
                have hl := HF.out (t ++ ⟨#[58]⟩) (by rw [bytes_app, HCO.out]; simp [nmb])
                exact ⟨⟨j + 1, _, by omega, by go_num, rfl, hl.2, hl.1, hin.out.2⟩, by simp [intOf]; omega⟩
            · have c3 : decide ((0 : Int) < (j : Int)) = false := decide_eq_false (by omega)
              have hco : colon j = [] := by unfold colon; rw [if_neg hj0]
              have HCO := Lib.hid hco
              clear hco
              by_cases hz0 : 0 ≤ z
              · have c4 : decide ((0 : Int) ≤ z) = true := decide_eq_true hz0
                obtain ⟨u, rfl⟩ : ∃ u : Nat, z = (u : Int) := ⟨z.toNat, by omega⟩
                have HD := Lib.hid (digits_any u (by omega))
                obtain ⟨D, hD⟩ : ∃ D : ByteArray, D = ⟨(Lib.decDigits u).toArray⟩ := ⟨_, rfl⟩
                have hDz : D.size ≤ 4 := by
                  have h5 : D.data.toList.length = D.size := by simp
                  rw [hD] at h5
                  have h6 := num_len (u : Int) (by omega) hz2
                  rw [num_pos _ (by omega), show (u : Int).toNat = u by omega] at h6
                  rw [hD]
                  simp at h5 ⊢
                  omega
                rw [← hD] at HD
                have HDD := Lib.hid hD
                clear hD
                have s3 : ¬ 9223372036854775807 < t.size + D.size := by omega
                go_wp2_with (go_at_call 27; refine (HD.out _).mono ?_; rintro e w2 ⟨rfl, hb2⟩)
                have hl := HF.out (t ++ D) (by rw [bytes_app, HCO.out, num_pos _ (by omega), show (u : Int).toNat = u by omega, HDD.out]; simp)
                exact ⟨⟨j + 1, _, by omega, by go_num, rfl, hl.2, hl.1, up hin.out.2 hb2⟩, by simp [intOf]; omega⟩
              · have c4 : decide ((0 : Int) ≤ z) = false := decide_eq_false hz0
                obtain rfl : z = -1 := by omega
                go_wp2
                have hl := HF.out t (by rw [HCO.out]; simp [nmb])
                exact ⟨⟨j + 1, _, by omega, by go_num, rfl, hl.2, hl.1, hin.out.2⟩, by simp [intOf]; omega⟩
          · have c2 : decide ((j : Int) < (m : Int)) = false := decide_eq_false (by omega)
            clear hcx1
            have ht : t.data.toList = txt l (i + 1) := by
              rw [txt_succ l i p HP.out HN.out, hin.out.1, List.take_of_length_le (by rw [← HM.out]; omega)]
            have ht6 : t.size ≤ 600 := by
              have h5 : t.data.toList.length = t.size := by simp
              rw [ht] at h5
              have := txt_len l (i + 1) HI.out
              omega
            have HT := Lib.hid ht
            clear ht
            go_wp2
            exact ⟨⟨i + 1, t, by omega, by go_num, rfl, ht6, HT.out, hin.out.2⟩, by simp [intOf]; omega⟩
      · have c0 : decide ((0 : Int) < (i : Int)) = false := decide_eq_false (by omega)
        have hsm : semi i = [] := by unfold semi; rw [if_neg hi0]
        have HSM := Lib.hid hsm
        clear hsm
        go_wp2
        go_loopw [6, 4] (fun kv sv wi => ∃ (j : Nat) (t : ByteArray), j ≤ m ∧ kv = .int .i64 j ∧ sv = .string t ∧ t.size ≤ 700 ∧ Hid (t.data.toList = txt l i ++ semi i ++ bod 0 (p.take j) ∧ Below w.heap.size w wi)) (fun kv _ _ => m - (intOf kv).toNat)
        case atStart =>
          refine ⟨0, _, Nat.zero_le _, rfl, rfl, ?_, ?_, hid.out.2⟩
          · omega
          · rw [hid.out.1, HSM.out]; simp [bod]
        case round =>
          obtain ⟨j, t, hj, rfl, rfl, ht7, hin⟩ := hrel
          have hcx2 := (hin.out.2.cell (p := ad.add i) (by rw [add_block]; exact hal)).trans ((hid.out.2.cell (p := ad.add i) (by rw [add_block]; exact hal)).symm.trans hcx1)
          by_cases hjt : j < m
          · obtain ⟨z, hz⟩ := get_some p j (by rw [← HM.out]; exact hjt)
            obtain ⟨xd, rfl, _, hxj⟩ := (HX.out.below hin.out.2) j _ (cI_at p j z hz)
            have hzz := HZ.out z (List.mem_of_getElem? hz)
            have hz1 := hzz.1
            have hz2 := hzz.2
            have Hz := Lib.hid hz
            clear hz hzz hcx1
            have j1 : (0 : Int) ≤ (j : Int) := by omega
            have j2 : (j : Int) < (m : Int) := by omega
            have c2 : decide ((j : Int) < (m : Int)) = true := decide_eq_true (by omega)
            have s2 : ¬ 9223372036854775807 < t.size + 1 := by omega
            have hbd : (bod 0 (p.take (j + 1))).length ≤ 30 := by
              have := bod_len 0 (p.take (j + 1)) (fun z hz => HZ.out z (List.mem_of_mem_take hz))
              have h2 : (p.take (j + 1)).length ≤ 6 := by rw [List.length_take]; omega
              omega
            have hsl : (txt l i ++ semi i).length ≤ 601 := by
              have h1 : (semi i).length ≤ 1 := by unfold semi; split <;> simp
              have h2 := hid.out.1
              have h3 : s.data.toList.length = s.size := by simp
              rw [h2] at h3
              rw [List.length_append]; omega
            have hfin : ∀ t' : ByteArray, t'.data.toList = t.data.toList ++ (colon j ++ nmb z) → t'.data.toList = txt l i ++ semi i ++ bod 0 (p.take (j + 1)) ∧ t'.size ≤ 700 := fun t' ht' => by
              have h4 : t'.data.toList = txt l i ++ semi i ++ bod 0 (p.take (j + 1)) := by rw [ht', hin.out.1, bod_take 0 p j z Hz.out, Nat.zero_add, List.append_assoc]
              have h5 : t'.data.toList.length = t'.size := by simp
              rw [h4, List.length_append] at h5
              exact ⟨h4, by omega⟩
            have HF := Lib.hid hfin
            clear hbd hsl hfin
            by_cases hj0 : 0 < j
            · have c3 : decide ((0 : Int) < (j : Int)) = true := decide_eq_true (by omega)
              have hco : colon j = [58] := by unfold colon; rw [if_pos hj0]
              have HCO := Lib.hid hco
              clear hco
              by_cases hz0 : 0 ≤ z
              · have c4 : decide ((0 : Int) ≤ z) = true := decide_eq_true hz0
                obtain ⟨u, rfl⟩ : ∃ u : Nat, z = (u : Int) := ⟨z.toNat, by omega⟩
                have HD := Lib.hid (digits_any u (by omega))
                obtain ⟨D, hD⟩ : ∃ D : ByteArray, D = ⟨(Lib.decDigits u).toArray⟩ := ⟨_, rfl⟩
                have hDz : D.size ≤ 4 := by
                  have h5 : D.data.toList.length = D.size := by simp
                  rw [hD] at h5
                  have h6 := num_len (u : Int) (by omega) hz2
                  rw [num_pos _ (by omega), show (u : Int).toNat = u by omega] at h6
                  rw [hD]
                  simp at h5 ⊢
                  omega
                rw [← hD] at HD
                have HDD := Lib.hid hD
                clear hD
                have s3 : ¬ 9223372036854775807 < t.size + 1 + D.size := by omega
                go_wp2_with (go_at_call 27; refine (HD.out _).mono ?_; rintro e w2 ⟨rfl, hb2⟩)
                have hl := HF.out (t ++ ⟨#[58]⟩ ++ D) (by rw [bytes_app, bytes_app, HCO.out, num_pos _ (by omega), show (u : Int).toNat = u by omega, HDD.out]; simp)
                exact ⟨⟨j + 1, _, by omega, by go_num, rfl, hl.2, hl.1, up hin.out.2 hb2⟩, by simp [intOf]; omega⟩
              · have c4 : decide ((0 : Int) ≤ z) = false := decide_eq_false hz0
                obtain rfl : z = -1 := by omega
                go_wp2
                have hl := HF.out (t ++ ⟨#[58]⟩) (by rw [bytes_app, HCO.out]; simp [nmb])
                exact ⟨⟨j + 1, _, by omega, by go_num, rfl, hl.2, hl.1, hin.out.2⟩, by simp [intOf]; omega⟩
            · have c3 : decide ((0 : Int) < (j : Int)) = false := decide_eq_false (by omega)
              have hco : colon j = [] := by unfold colon; rw [if_neg hj0]
              have HCO := Lib.hid hco
              clear hco
              by_cases hz0 : 0 ≤ z
              · have c4 : decide ((0 : Int) ≤ z) = true := decide_eq_true hz0
                obtain ⟨u, rfl⟩ : ∃ u : Nat, z = (u : Int) := ⟨z.toNat, by omega⟩
                have HD := Lib.hid (digits_any u (by omega))
                obtain ⟨D, hD⟩ : ∃ D : ByteArray, D = ⟨(Lib.decDigits u).toArray⟩ := ⟨_, rfl⟩
                have hDz : D.size ≤ 4 := by
                  have h5 : D.data.toList.length = D.size := by simp
                  rw [hD] at h5
                  have h6 := num_len (u : Int) (by omega) hz2
                  rw [num_pos _ (by omega), show (u : Int).toNat = u by omega] at h6
                  rw [hD]
                  simp at h5 ⊢
                  omega
                rw [← hD] at HD
                have HDD := Lib.hid hD
                clear hD
                have s3 : ¬ 9223372036854775807 < t.size + D.size := by omega
                go_wp2_with (go_at_call 27; refine (HD.out _).mono ?_; rintro e w2 ⟨rfl, hb2⟩)
                have hl := HF.out (t ++ D) (by rw [bytes_app, HCO.out, num_pos _ (by omega), show (u : Int).toNat = u by omega, HDD.out]; simp)
                exact ⟨⟨j + 1, _, by omega, by go_num, rfl, hl.2, hl.1, up hin.out.2 hb2⟩, by simp [intOf]; omega⟩
              · have c4 : decide ((0 : Int) ≤ z) = false := decide_eq_false hz0
                obtain rfl : z = -1 := by omega
                go_wp2
                have hl := HF.out t (by rw [HCO.out]; simp [nmb])
                exact ⟨⟨j + 1, _, by omega, by go_num, rfl, hl.2, hl.1, hin.out.2⟩, by simp [intOf]; omega⟩
          · have c2 : decide ((j : Int) < (m : Int)) = false := decide_eq_false (by omega)
            clear hcx1
            have ht : t.data.toList = txt l (i + 1) := by
              rw [txt_succ l i p HP.out HN.out, hin.out.1, List.take_of_length_le (by rw [← HM.out]; omega)]
            have ht6 : t.size ≤ 600 := by
              have h5 : t.data.toList.length = t.size := by simp
              rw [ht] at h5
              have := txt_len l (i + 1) HI.out
              omega
            have HT := Lib.hid ht
            clear ht
            go_wp2
            exact ⟨⟨i + 1, t, by omega, by go_num, rfl, ht6, HT.out, hin.out.2⟩, by simp [intOf]; omega⟩
    · obtain rfl : i = n := by omega
      have c1 : decide ((i : Int) < (i : Int)) = false := decide_eq_false (by omega)
      go_wp2
      go_ret2
      have ht := hid.out.1
      rw [Hn.out, txt_all] at ht
      have es : s = ⟨(prtL l).toArray⟩ := ByteArray.ext (by rw [← ht])
      rw [es]
      exact ⟨rfl, hid.out.2⟩
theorem rprint_any (v : Value) (l : List (List Int)) (w : World) (h : RL w v l) (hl : l.length ≤ 1000000) :
    Calls Tryd.prog 13 #[v] w fun e w' => e = .returned (.tuple #[.string (prtV l), .int .i64 (chkV l)]) ∧ Below w.heap.size w w' := by
  rcases bad_cases l with ⟨hb, hi⟩ | ⟨hb, hi⟩
  · rw [hb, prtV, hi]
    exact rprint_bad v l w h hl hb
  · rw [hb, prtV, hi]
    exact rprint_ok v l w h hi
end Go.Proofs.YtelglcchcpnfbaaDoor.Par
