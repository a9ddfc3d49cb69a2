/-
  What strings of text bring about: plain facts for StateTexts. The walk of StateTexts (whole).
-/
import Derived.Test.YtefkbdmgplfgoaaDoorStaMath
import Derived.Test.YtefkbdmgplfgoaaDoorStaAm
import Derived.BigQuiet
import Derived.Deep.QuietTactic
import Derived.Deep.CutBlock
namespace Go.Proofs.YtefkbdmgplfgoaaDoor.Sta
open Utf Par

/-- a byte of text -/
def txB (b : UInt8) : Bool := decide (32 ≤ b.toNat) && !decide (b.toNat = 127)
theorem txB_iff (b : UInt8) : txB b = true ↔ 32 ≤ b.toNat ∧ b.toNat ≠ 127 := by unfold txB; simp
/-- a byte that strings drop -/
def noB (b : UInt8) : Bool := decide (b.toNat = 1) || decide (b.toNat = 127) || decide (b.toNat = 10)
theorem noB_iff (b : UInt8) : noB b = true ↔ b.toNat = 1 ∨ b.toNat = 127 ∨ b.toNat = 10 := by unfold noB; simp [or_assoc]
/-- an OSC string as it stands after these bytes of text -/
def oscP (bs : List UInt8) : PS := if 512 < bs.length then spoS 6 else { begS 6 with tx := ⟨bs.toArray⟩ }
theorem oscP_st (bs : List UInt8) : (oscP bs).st = 6 := by unfold oscP; split <;> rfl
theorem oscP_utf (bs : List UInt8) : (oscP bs).utf = [] := by unfold oscP; split <;> rfl
theorem one_osc (t : List UInt8) (b : UInt8) (h : txB b = true) : oneS (oscP t) b = (oscP (t ++ [b]), []) := by
  rw [txB_iff] at h
  unfold oneS
  rw [if_neg (by rw [oscP_st]; omega), if_neg (by omega), if_neg (by omega), if_neg (by rw [oscP_st]; omega), if_pos (by rw [oscP_st]; omega)]
  unfold witS
  rw [if_neg (by omega)]
  unfold oscP
  by_cases h1 : 512 < t.length
  · rw [if_pos h1, if_pos (show b.toNat < 32 ∨ b.toNat = 127 ∨ (spoS 6).st = 13 ∨ (spoS 6).bad = true from Or.inr (Or.inr (Or.inr rfl))), if_pos (by rw [List.length_append, List.length_singleton]; omega)]
  · rw [if_neg h1, if_neg (by show ¬ (_ ∨ _ ∨ (6 : Int) = 13 ∨ (false = true)); simp; omega)]
    by_cases h2 : t.length = 512
    · rw [if_pos (by show t.toArray.size = 512; simpa using h2), if_pos (by simp; omega)]; rfl
    · rw [if_neg (by show ¬ t.toArray.size = 512; simpa using h2), if_neg (by simp; omega)]
      refine Prod.ext ?_ rfl
      show ({ begS 6 with tx := (⟨t.toArray⟩ : ByteArray) ++ bs1 b } : PS) = { begS 6 with tx := ⟨(t ++ [b]).toArray⟩ }
      rw [show (⟨t.toArray⟩ : ByteArray) ++ bs1 b = ⟨(t ++ [b]).toArray⟩ from ByteArray.ext (by rw [ByteArray.data_append]; simp [bs1])]
theorem one_drop (t : List UInt8) (b : UInt8) (h : noB b = true) : oneS (oscP t) b = (oscP t, []) := by
  rw [noB_iff] at h
  unfold oneS
  rw [if_neg (by rw [oscP_st]; omega), if_neg (by omega), if_neg (by omega), if_neg (by rw [oscP_st]; omega), if_pos (by rw [oscP_st]; omega)]
  unfold witS
  rw [if_neg (by omega), if_pos (by omega)]
/-- what of a text with noise counts -/
theorem run_osc (s : List UInt8) : ∀ (t : List UInt8) (l : List EV), (∀ b ∈ s, txB b = true ∨ noB b = true) → runS (oscP t, l) s = (oscP (t ++ s.filter txB), l) := by
  induction s with
  | nil => intro t l _; simp [runS]
  | cons b s ih =>
    intro t l h
    rw [runS]
    rcases h b (by simp) with hb | hb
    · rw [one_osc t b hb, List.append_nil, ih _ _ (fun x hx => h x (by simp [hx])), List.filter_cons_of_pos hb]
      simp
    · rw [one_drop t b hb, List.append_nil, ih _ _ (fun x hx => h x (by simp [hx])), List.filter_cons_of_neg ?_]
      rw [noB_iff] at hb
      rw [txB_iff]
      omega
theorem osc_beg : runS (begS 0, []) [27, 93] = (oscP [], []) := by kernel_rfl
theorem one_away (b : UInt8) (h : txB b = true ∨ b.toNat = 7) : oneS (begS 13) b = (begS 13, []) := by
  rw [txB_iff] at h
  unfold oneS
  rw [if_neg (by show ¬ ((13 : Int) = 0 ∧ _); omega), if_neg (by omega), if_neg (by omega), if_neg (by show ¬ ((13 : Int) = 7 ∨ (13 : Int) = 12 ∨ (13 : Int) = 14); omega), if_pos (by show (13 : Int) = 6 ∨ (13 : Int) = 11 ∨ (13 : Int) = 13; omega)]
  unfold witS
  rw [if_neg (by show ¬ ((13 : Int) = 6 ∧ _); omega), if_pos (show b.toNat < 32 ∨ b.toNat = 127 ∨ (begS 13).st = 13 ∨ (begS 13).bad = true from Or.inr (Or.inr (Or.inl rfl)))]
theorem run_away (s : List UInt8) : ∀ l : List EV, (∀ b ∈ s, txB b = true) → runS (begS 13, l) s = (begS 13, l) := by
  induction s with
  | nil => intro l _; rfl
  | cons b s ih =>
    intro l h
    rw [runS, one_away b (.inl (h b (by simp))), List.append_nil]
    exact ih l (fun x hx => h x (by simp [hx]))
theorem away_all (o : UInt8) (s : List UInt8) (ho : o = 88 ∨ o = 94 ∨ o = 95) (h : ∀ b ∈ s, txB b = true) : runS (begS 0, []) (27 :: o :: s ++ [7, 27, 92, 97]) = (begS 0, [prE 97]) := by
  rw [List.cons_append, List.cons_append, show (27 :: o :: (s ++ [7, 27, 92, 97])) = [27, o] ++ (s ++ [7, 27, 92, 97]) from rfl, runS_app]
  have h1 : runS (begS 0, []) [27, o] = (begS 13, []) := by rcases ho with rfl | rfl | rfl <;> kernel_rfl
  rw [h1, runS_app, run_away s _ h]
  rfl
/-- a string that another sequence interrupts -/
theorem osc_cut (s : List UInt8) (h : ∀ b ∈ s, txB b = true) : runS (begS 0, []) (27 :: 93 :: s ++ [27, 91, 109]) = (begS 0, [⟨4, 0, 0, 109, [], nos, nos⟩]) := by
  rw [List.cons_append, List.cons_append, show (27 :: 93 :: (s ++ [27, 91, 109])) = [27, 93] ++ (s ++ [27, 91, 109]) from rfl, runS_app, osc_beg, runS_app, run_osc s [] [] (fun b hb => .inl (h b hb))]
  generalize [] ++ s.filter txB = t
  have h1 : oneS (oscP t) 27 = ({ oscP t with st := 7 }, []) := by
    unfold oneS
    rw [if_neg (by rw [oscP_st]; omega), if_neg (by decide), if_pos (by decide), if_pos (by rw [oscP_st]; omega), oscP_st]
    rfl
  rw [runS, h1, runS]
  have h2 : oneS ({ oscP t with st := 7 } : PS) 91 = (begS 3, []) := by
    unfold oneS
    rw [if_neg (by show ¬ ((7 : Int) = 0 ∧ _); omega), if_neg (by decide), if_neg (by decide), if_pos (by show (7 : Int) = 7 ∨ _; omega)]
    unfold endS
    rw [if_pos (by decide)]
    kernel_rfl
  show runS ((oneS ({ oscP t with st := 7 } : PS) 91).1, [] ++ [] ++ (oneS ({ oscP t with st := 7 } : PS) 91).2) [109] = _
  rw [h2]
  kernel_rfl
/-- the end of an OSC string -/
def oscL (s : List UInt8) : List EV := if 512 < s.length then [] else [⟨5, 0, 0, 0, [], nos, ⟨s.toArray⟩⟩]
theorem tol_osc (t : List UInt8) (n : Int) : tolS ({ oscP t with st := n } : PS) (osE { oscP t with st := n }) = (begS 0, oscL t) := by
  unfold tolS oscL oscP
  by_cases h : 512 < t.length
  · rw [if_pos h, if_pos h]; rfl
  · rw [if_neg h, if_neg h]; rfl
theorem osc_bel (s : List UInt8) (h : ∀ b ∈ s, txB b = true ∨ noB b = true) : runS (begS 0, []) (27 :: 93 :: s ++ [7, 97]) = (begS 0, oscL (s.filter txB) ++ [prE 97]) := by
  rw [List.cons_append, List.cons_append, show (27 :: 93 :: (s ++ [7, 97])) = [27, 93] ++ (s ++ [7, 97]) from rfl, runS_app, osc_beg, runS_app, run_osc s [] [] h, List.nil_append]
  generalize s.filter txB = t
  have h1 : oneS (oscP t) 7 = (begS 0, oscL t) := by
    unfold oneS
    rw [if_neg (by rw [oscP_st]; rintro ⟨h, _⟩; omega), if_neg (by decide), if_neg (by decide), if_neg (by rw [oscP_st]; omega), if_pos (by rw [oscP_st]; omega)]
    unfold witS
    rw [if_pos ⟨oscP_st t, by decide⟩]
    have := tol_osc t 6
    have e : ({ oscP t with st := 6 } : PS) = oscP t := by unfold oscP; split <;> rfl
    rw [e] at this
    exact this
  rw [runS, h1, runS_ev]
  rfl
theorem osc_st (s : List UInt8) (h : ∀ b ∈ s, txB b = true ∨ noB b = true) : runS (begS 0, []) (27 :: 93 :: s ++ [27, 92, 97]) = (begS 0, oscL (s.filter txB) ++ [prE 97]) := by
  rw [List.cons_append, List.cons_append, show (27 :: 93 :: (s ++ [27, 92, 97])) = [27, 93] ++ (s ++ [27, 92, 97]) from rfl, runS_app, osc_beg, runS_app, run_osc s [] [] h, List.nil_append]
  generalize s.filter txB = t
  have h1 : oneS (oscP t) 27 = ({ oscP t with st := 7 }, []) := by
    unfold oneS
    rw [if_neg (by rw [oscP_st]; omega), if_neg (by decide), if_pos (by decide), if_pos (by rw [oscP_st]; omega), oscP_st]
    rfl
  rw [runS, h1, runS]
  have h2 : oneS ({ oscP t with st := 7 } : PS) 92 = (begS 0, oscL t) := by
    unfold oneS
    rw [if_neg (by show ¬ ((7 : Int) = 0 ∧ _); omega), if_neg (by decide), if_neg (by decide), if_pos (by show (7 : Int) = 7 ∨ _; omega)]
    unfold endS
    rw [if_neg (by decide), if_pos rfl]
    exact tol_osc t 7
  show runS ((oneS ({ oscP t with st := 7 } : PS) 92).1, [] ++ [] ++ (oneS ({ oscP t with st := 7 } : PS) 92).2) [97] = _
  rw [h2, runS_ev]
  rfl
end Go.Proofs.YtefkbdmgplfgoaaDoor.Sta
namespace Go.Proofs.YtefkbdmgplfgoaaDoor.Sta
open Go.RowKit Utf Par

theorem tell_run (S : ByteArray) (L : List EV) (hs : S.size ≤ 4096) (h : runS (begS 0, []) S.data.toList = (begS 0, L)) : tellB S L = true := by
  have hl : ¬ 4096 < S.data.toList.length := by simpa using hs
  unfold tellB fedS
  rw [if_pos (by decide), if_neg hl, h]
  rw [(evB_iff L L).2 rfl, (eqS_iff (begS 0) (begS 0)).2 rfl]
  rfl
/-- one event that holds no parameters -/
theorem tell1 (S : ByteArray) (e : EV) (he : e.ps = []) (hs : S.size ≤ 4096) (h : runS (begS 0, []) S.data.toList = (begS 0, [e])) (w : World) (hm : Mk w) (hf : Tf w) :
    Calls Tryd.prog 15 #[.string S, .slice (some ⟨w.heap.size, 0, none⟩) 1 1] (w.alloc (.cells #[.int .i64 e.k, .int .i64 e.c, .int .u8 (e.pr.toNat : Int), .int .u8 (e.fi.toNat : Int), .slice .none 0 0, .string e.it, .string e.tx] 38)) fun e w' => e = .returned (.bool true) ∧ Below w.heap.size w w' :=
  tells_true S [⟨e, .none, 0, 0⟩] 1 rfl (by decide) w (by
    intro x hx
    simp only [List.mem_cons, List.not_mem_nil, or_false] at hx
    subst hx
    show RL w (.slice .none 0 0) e.ps
    rw [he]; exact RL.nil _) (fun x hx => by
      simp only [List.map_cons, List.map_nil, List.mem_cons, List.not_mem_nil, or_false] at hx
      rw [hx, he]; exact kq_nil) (tell_run S _ hs h) hm hf (by omega)
/-- two events that hold no parameters -/
theorem tell2 (S : ByteArray) (e f : EV) (he : e.ps = []) (hf' : f.ps = []) (hs : S.size ≤ 4096) (h : runS (begS 0, []) S.data.toList = (begS 0, [e, f])) (w : World) (hm : Mk w) (hf : Tf w) :
    Calls Tryd.prog 15 #[.string S, .slice (some ⟨w.heap.size, 0, none⟩) 2 2] (w.alloc (.cells #[.int .i64 e.k, .int .i64 e.c, .int .u8 (e.pr.toNat : Int), .int .u8 (e.fi.toNat : Int), .slice .none 0 0, .string e.it, .string e.tx, .int .i64 f.k, .int .i64 f.c, .int .u8 (f.pr.toNat : Int), .int .u8 (f.fi.toNat : Int), .slice .none 0 0, .string f.it, .string f.tx] 38)) fun e w' => e = .returned (.bool true) ∧ Below w.heap.size w w' :=
  tells_true S [⟨e, .none, 0, 0⟩, ⟨f, .none, 0, 0⟩] 2 rfl (by decide) w (by
    intro x hx
    simp only [List.mem_cons, List.not_mem_nil, or_false] at hx
    rcases hx with rfl | rfl
    · show RL w (.slice .none 0 0) e.ps
      rw [he]; exact RL.nil _
    · show RL w (.slice .none 0 0) f.ps
      rw [hf']; exact RL.nil _) (fun x hx => by
      simp only [List.map_cons, List.map_nil, List.mem_cons, List.not_mem_nil, or_false] at hx
      rcases hx with hx | hx
      · rw [hx, he]; exact kq_nil
      · rw [hx, hf']; exact kq_nil) (tell_run S _ hs h) hm hf (by omega)
/-- what is taken of the first k bytes -/
def tk (s : ByteArray) (k : Nat) : List UInt8 := (s.data.toList.take k).filter txB
theorem tk_len (s : ByteArray) (k : Nat) : (tk s k).length ≤ k := by
  unfold tk
  have h1 := List.length_filter_le txB (s.data.toList.take k)
  have h2 := List.length_take_le k s.data.toList
  omega
theorem tk_all (s : ByteArray) (k : Nat) : ∀ b ∈ tk s k, txB b = true := fun _ hb => (List.mem_filter.1 hb).2
theorem ba_get (s : ByteArray) (k : Nat) (h : k < s.size) : s.data.toList[k]? = some s[k] := by
  rw [List.getElem?_eq_getElem (by simpa using h)]; rfl
theorem tk_snoc (s : ByteArray) (k : Nat) (h : k < s.size) : tk s (k + 1) = tk s k ++ (if txB s[k] then [s[k]] else []) := by
  unfold tk
  rw [List.take_add_one, ba_get s k h, List.filter_append]
  cases hc : txB s[k] <;> simp [hc]
theorem noisy_ok (S : ByteArray) (bs : List UInt8) (h : S.data.toList = bs) (ht : ∀ b ∈ bs, txB b = true) (hs : S.size ≤ 600) (j : Nat) (hj : j ≤ S.size) :
    (S.extract 0 j ++ ⟨#[1, 127, 10]⟩ ++ S.extract j S.size).size ≤ 603 ∧ Hid ((∀ b ∈ (S.extract 0 j ++ ⟨#[1, 127, 10]⟩ ++ S.extract j S.size).data.toList, txB b = true ∨ noB b = true) ∧ (S.extract 0 j ++ ⟨#[1, 127, 10]⟩ ++ S.extract j S.size).data.toList.filter txB = bs) := by
  have hl : bs.length = S.size := by rw [← h]; simp
  have e : (S.extract 0 j ++ ⟨#[1, 127, 10]⟩ ++ S.extract j S.size).data.toList = bs.take j ++ [1, 127, 10] ++ bs.drop j := by
    rw [Go.Joins.data_append, Go.Joins.data_append, ByteArray.data_extract, ByteArray.data_extract, Array.toList_extract, Array.toList_extract, h]
    simp [List.extract]
    rw [List.take_of_length_le (by simp; omega)]
  have hsz : ∀ B : ByteArray, B.size = B.data.toList.length := fun B => by simp
  refine ⟨?_, ⟨?_, ?_⟩⟩
  · rw [hsz, e]
    simp
    omega
  · rw [e]
    intro b hb
    rcases List.mem_append.1 hb with hb | hb
    · rcases List.mem_append.1 hb with hb | hb
      · exact .inl (ht b (List.mem_of_mem_take hb))
      · simp at hb
        rcases hb with rfl | rfl | rfl
        · right; decide
        · right; decide
        · right; decide
    · exact .inl (ht b (List.mem_of_mem_drop hb))
  · rw [e, List.filter_append, List.filter_append, List.filter_eq_self.2 (fun b hb => ht b (List.mem_of_mem_take hb)), List.filter_eq_self.2 (fun b hb => ht b (List.mem_of_mem_drop hb))]
    rw [show [1, 127, 10].filter txB = [] from by decide, List.append_nil, List.take_append_drop]
theorem ix_letters (W : World) (j : Int) (c : UInt8) (h : (j = 0 ∧ c = 88) ∨ (j = 1 ∧ c = 94) ∨ (j = 2 ∧ c = 95)) :
    Sem.run Tryd.prog (Instr.index 35 (.agg #[.string ⟨#[88]⟩, .string ⟨#[94]⟩, .string ⟨#[95]⟩]) (.int .u8 j)) W = .ok (.string ⟨#[c]⟩) W := by
  rcases h with ⟨rfl, rfl⟩ | ⟨rfl, rfl⟩ | ⟨rfl, rfl⟩ <;> kernel_rfl
theorem infoU8 : (Tryd.prog.info? 5).map (fun i => (i.zero, i.size, i.bytes)) = some (some (.int .u8 0), 1, 1) := by kernel_rfl
theorem str_own {w : World} {B n : Nat} {v : Value} {l : List UInt8} (h : w.ownsRow B 5 1 v n (cB l)) : (convert 22 9 v).run Tryd.prog w = .ok (.string ⟨l.toArray⟩) w := by
  have hl : n = l.length := by have := h.1; rw [cB_len] at this; omega
  subst hl
  obtain ⟨A, c, rfl, _, hr⟩ := own_slice h
  exact str_of w A c l hr

set_option maxRecDepth 100000 in
set_option maxHeartbeats 8000000 in
theorem texts_any (s : ByteArray) (o : UInt8) (w : World) (hs : s.size ≤ maxLen) (hm : Mk w) (hf : Tf w) :
    Calls Tryd.prog 6 #[.string s, .int .u8 (o.toNat : Int)] w fun e w' => e = .returned (.bool true) ∧ Below w.heap.size w w' := by
  obtain ⟨i0, hi0, hz0, hz1, hz2⟩ := info_parts infoU8
  have HW := Lib.hid (works_any w hm hf)
  have HM := Lib.hid hm
  have HF := Lib.hid hf
  clear hm hf
  unfold maxLen at hs
  go_enter Tryd.func6, Tryd.ntmps6
  go_upto_block 0 with (go_at_call 7; refine HW.out.mono ?_; rintro e w1 ⟨rfl, hb1⟩; have HB1 := Lib.hid hb1; clear hb1)
  go_cut [5, 6] from 13 to 38 (fun v _ wx => ∃ k : Nat, k ≤ 600 ∧ Hid (wx.ownsRow w1.heap.size 5 1 v (tk s k).length (cB (tk s k)) ∧ Below w1.heap.size w1 wx))
  case first =>
    go_wp2_with fail
    go_loopw [5, 6] (fun v i wr => ∃ k : Nat, k ≤ 600 ∧ k ≤ s.size ∧ i = .int .i64 k ∧ Hid (wr.ownsRow w1.heap.size 5 1 v (tk s k).length (cB (tk s k)) ∧ Below w1.heap.size w1 wr)) (fun _ i _ => s.size - (intOf i).toNat)
    case atStart => exact ⟨0, by omega, by omega, rfl, World.ownsRow_nil _ _ _ _, Below.refl _ _⟩
    case round =>
      obtain ⟨k, hk6, hks, rfl, hid⟩ := hrel
      by_cases hlt : k < s.size
      · by_cases h6 : k < 600
        · have i1 : (k : Int) < 600 := by omega
          obtain ⟨hown, hb⟩ := hid.out
          have hsn := tk_snoc s k hlt
          by_cases hc : txB s[k] = true
          · rw [if_pos hc] at hsn
            rw [txB_iff] at hc
            have c1 : (32 : Int) ≤ (s[k].toNat : Int) := by omega
            have c2 : ((s[k].toNat : Int) == 127) = false := by simp; omega
            have c3 : ((s[k].toNat : Int) != 127) = true := by simp; omega
            have HS := Lib.hid hsn
            have hkl := tk_len s k
            obtain ⟨m, hm2⟩ : ∃ m, (tk s k).length = m := ⟨_, rfl⟩
            rw [hm2] at hown hkl
            have HM2 := Lib.hid hm2
            have HO := Lib.hid (own_below hown (below_box wr (.cells #[.int .u8 (s[k].toNat : Int)] 5)))
            have HB := Lib.hid hb
            have HOB := Lib.hid (fun g hg => (hown.lt g hg).1)
            have hsz := hb.size
            have hbn := (hb.trans ((below_box wr (.cells #[.int .u8 (s[k].toNat : Int)] 5)).mono hsz))
            have HBN := Lib.hid hbn
            obtain ⟨Av, cv, rfl, _, _⟩ := own_slice hown
            clear hown hb hid hsn hc hbn hm2
            go_wp2_with (at_builtin; refine wpList_app _ rfl (.tmp 33) (.tmp 37) 22 rfl w1.heap.size 5 i0 _ 1 Tryd.underlying22 hi0 hz0 hz1 hz2 rfl _ m (cB (tk s k)) rfl HO.out (some ⟨wr.heap.size, 0, none⟩) 1 1 [.int .u8 (s[k].toNat : Int)] rfl rfl (Rd.one _ _ _) (by intro u hu; simp at hu; subst hu; rfl) (by omega) (by omega) (by rw [World.size_alloc]; omega) ?_; intro v' w' hown' hg' hn'; have HO' := Lib.hid hown'; have HG' := Lib.hid hg'; clear hown' hg' hn')
            go_roundw
            case rel =>
              refine ⟨k + 1, by omega, by omega, by go_num, ?_, ?_⟩
              · rw [HS.out]
                have := HO'.out
                rw [List.length_append, show cB (tk s k ++ [s[k]]) = cB (tk s k) ++ [.int .u8 (s[k].toNat : Int)] from by simp [cB], HM2.out]
                exact this
              · exact HBN.out.grown HG'.out (by rw [World.size_alloc]; omega) HOB.out
            case measure => simp [intOf]; omega
          · rw [if_neg hc, List.append_nil] at hsn
            have hcf : ¬ (32 ≤ s[k].toNat ∧ s[k].toNat ≠ 127) := fun h => hc ((txB_iff _).2 h)
            have HS := Lib.hid hsn
            have HI := Lib.hid hid.out
            clear hown hb hid hsn hc
            by_cases h32 : 32 ≤ s[k].toNat
            · have e7 : s[k].toNat = 127 := by omega
              have c0 : (s[k].toNat : Int) = 127 := by omega
              go_wp2
              go_roundw
              case rel => exact ⟨k + 1, by omega, by omega, by go_num, by rw [HS.out]; exact HI.out⟩
              case measure => simp [intOf]; omega
            · have c1 : decide ((32 : Int) ≤ (s[k].toNat : Int)) = false := by simp; omega
              have c2 : decide (32 ≤ s[k].toNat) = false := by simp; omega
              go_wp2
              go_roundw
              case rel => exact ⟨k + 1, by omega, by omega, by go_num, by rw [HS.out]; exact HI.out⟩
              case measure => simp [intOf]; omega
        · have i1 : decide ((k : Int) < 600) = false := by simp; omega
          go_wp2_with fail
          go_meet
          case rel => exact ⟨k, hk6, hid⟩
      · go_wp2_with fail
        go_meet
        case rel => exact ⟨k, hk6, hid⟩
  case rest =>
    obtain ⟨k, hk6, hid⟩ := hcut
    have htl := tk_len s k
    have hta := tk_all s k
    obtain ⟨hown, hb⟩ := hid.out
    have hcv := str_own hown
    obtain ⟨bs, hbs⟩ : ∃ bs, bs = tk s k := ⟨_, rfl⟩
    rw [← hbs] at hcv hta htl
    clear hown hid hbs
    obtain ⟨S, hS⟩ : ∃ S : ByteArray, S = ⟨bs.toArray⟩ := ⟨_, rfl⟩
    rw [← hS] at hcv
    have hSl : S.data.toList = bs := by rw [hS]
    have hSz : S.size ≤ 600 := by have : S.size = bs.length := by { rw [hS]; rfl }
                                  omega
    have HSL := Lib.hid hSl
    have HSB := Lib.hid hS
    have HSN := Lib.hid (show S.size = bs.length from by rw [hS]; rfl)
    have HTA := Lib.hid hta
    have HBC := Lib.hid hb
    clear hS hSl hta hb hs
    go_upto_if 44 with fail
    clear hcv
    go_cut [8] from 9 to 57 (fun v wx => Below w1.heap.size w1 wx ∧ ∃ Z : ByteArray, v = .string Z ∧ Z.size ≤ 603 ∧ Hid ((∀ b ∈ Z.data.toList, txB b = true ∨ noB b = true) ∧ Z.data.toList.filter txB = bs))
    case first =>
      by_cases h0 : 0 < S.size
      · have h0i : (0 : Int) < (S.size : Int) := by omega
        obtain ⟨j, hj, hjl⟩ : ∃ j : Nat, (o.toNat : Int).tmod (S.size : Int) = (j : Int) ∧ j < S.size := ⟨o.toNat % S.size, by rw [Int.tmod_eq_emod_of_nonneg (by omega)]; rfl, Nat.mod_lt _ h0⟩
        have hn0 : ((S.size : Int) == 0) = false := by rw [beq_eq_false_iff_ne]; omega
        have hjs : (j : Int) ≤ (S.size : Int) := by omega
        have ho1 : (0 : Int) ≤ (o.toNat : Int) := by omega
        have ho2 : (o.toNat : Int) ≤ 255 := by have := o.toNat_lt; omega
        go_upto_region 13 with fail
        go_region
        go_wp2_with fail
        go_meet
        case rel => exact ⟨HBC.out.drew, _, rfl, noisy_ok S bs HSL.out HTA.out hSz j (by omega)⟩
      · have h0i : decide ((0 : Int) < (S.size : Int)) = false := decide_eq_false (by omega)
        have h0n : decide (0 < S.size) = false := decide_eq_false (by omega)
        go_wp2_with fail
        go_meet
        case rel => exact ⟨HBC.out, S, rfl, by omega, by rw [HSL.out]; exact ⟨fun b hb => .inl (HTA.out b hb), List.filter_eq_self.2 HTA.out⟩⟩
    case rest =>
      obtain ⟨hbc, Z, rfl, hZ, hZl⟩ := hcut
      have HBD := Lib.hid hbc
      clear HBC hbc
      have ho1 : (0 : Int) ≤ (o.toNat : Int) := by omega
      have ho2 : (o.toNat : Int) ≤ 255 := by have := o.toNat_lt; omega
      go_upto_region 14 with fail
      go_cut [10] from 58 to 62 (fun v wx => wx = wc ∧ ∃ c : UInt8, v = .string ⟨#[27, c]⟩ ∧ (c = 88 ∨ c = 94 ∨ c = 95))
      case first =>
        have hm3 : (o.toNat : Int).tmod 3 = 0 ∨ (o.toNat : Int).tmod 3 = 1 ∨ (o.toNat : Int).tmod 3 = 2 := by rw [Int.tmod_eq_emod_of_nonneg ho1]; omega
        rcases hm3 with hm3 | hm3 | hm3
        · have ix := ix_letters wc 0 88 (by simp)
          go_wp2_with fail
          go_meet
          case rel => exact ⟨rfl, 88, rfl, by simp⟩
        · have ix := ix_letters wc 1 94 (by simp)
          go_wp2_with fail
          go_meet
          case rel => exact ⟨rfl, 94, rfl, by simp⟩
        · have ix := ix_letters wc 2 95 (by simp)
          go_wp2_with fail
          go_meet
          case rel => exact ⟨rfl, 95, rfl, by simp⟩
      case rest =>
        obtain ⟨rfl, c, rfl, hc⟩ := hcut
        have HW2 := Lib.hid (show ∀ W, Below wc.heap.size wc W → Mk W ∧ Tf W ∧ Below w.heap.size w W from fun W hW => have hq := up (HB1.out.trans (HBD.out.mono HB1.out.size)) (hW.mono (Nat.le_refl _)); ⟨HM.out.keep hq, HF.out.keep hq, hq⟩)
        have T1 := Lib.hid (fun (W : World) (hW : Below wc.heap.size wc W) => show Calls Tryd.prog 15 #[.string ((⟨#[27, c]⟩ : ByteArray) ++ S ++ ⟨#[7, 27, 92, 97]⟩), .slice (some ⟨W.heap.size, 0, none⟩) 1 1] (W.alloc (.cells #[.int .i64 1, .int .i64 97, .int .u8 0, .int .u8 0, .slice .none 0 0, .string ⟨#[]⟩, .string ⟨#[]⟩] 38)) (fun e w' => e = .returned (.bool true) ∧ Below W.heap.size W w') from
          tell1 _ (prE 97) rfl (by rw [ByteArray.size_append, ByteArray.size_append]; show 2 + S.size + 4 ≤ 4096; omega) (by rw [Go.Joins.data_append, Go.Joins.data_append, HSL.out]; exact away_all c bs hc HTA.out) W (HW2.out W hW).1 (HW2.out W hW).2.1)
        have T2 := Lib.hid (fun (W : World) (A : Option Addr) (n d : Nat) (hr : RL W (.slice A n d) []) (hW : Below wc.heap.size wc W) => show Calls Tryd.prog 15 #[.string ((⟨#[27, 93]⟩ : ByteArray) ++ S ++ ⟨#[27, 91, 109]⟩), .slice (some ⟨W.heap.size, 0, none⟩) 1 1] (W.alloc (.cells #[.int .i64 4, .int .i64 0, .int .u8 0, .int .u8 109, .slice A n d, .string ⟨#[]⟩, .string ⟨#[]⟩] 38)) (fun e w' => e = .returned (.bool true) ∧ Below W.heap.size W w') from
          tells_true _ [⟨⟨4, 0, 0, 109, [], ⟨#[]⟩, ⟨#[]⟩⟩, A, n, d⟩] 1 rfl (by decide) W (by
            intro x hx
            simp only [List.mem_cons, List.not_mem_nil, or_false] at hx
            subst hx
            exact hr) (kv_small _ (by rfl)) (tell_run _ _ (by rw [ByteArray.size_append, ByteArray.size_append]; show 2 + S.size + 3 ≤ 4096; omega) (by rw [Go.Joins.data_append, Go.Joins.data_append, HSL.out]; exact osc_cut bs HTA.out)) (HW2.out W hW).1 (HW2.out W hW).2.1 (by rw [ByteArray.size_append, ByteArray.size_append]; show 2 + S.size + 3 ≤ _; omega))
        have hB := Below.refl wc.heap.size wc
        go_upto_if 79 with (first
          | (go_at_call 16; refine (lprint_any _ _).mono ?_; rintro e w' ⟨rfl, hb'⟩; have hB := up hB hb'; clear hb')
          | (go_at_call 17; refine (lcsi_any _ none 0 0 [] _ rfl (Rd.nil _ _) (by decide)).mono ?_; rintro e w' ⟨Aq, nq, cq, rfl, hr', hb'⟩; have HRQ := Lib.hid hr'; have hB := up hB hb'; clear hb' hr')
          | (go_at_call 15; (first | (with_reducible refine (T1.out _ hB).mono ?_) | (with_reducible refine (T2.out _ _ _ _ HRQ.out hB).mono ?_)); rintro e w' ⟨rfl, hb'⟩; have hB := up hB hb'; clear hb'))
        by_cases h5 : 512 < S.size
        · have d5 : (512 : Int) < (S.size : Int) := by omega
          have HR7 := Lib.hid (show runS (begS 0, []) (27 :: 93 :: S.data.toList ++ [7, 97]) = (begS 0, [prE 97]) from by
            rw [HSL.out, osc_bel bs (fun b hb => .inl (HTA.out b hb)), List.filter_eq_self.2 HTA.out]
            unfold oscL
            rw [if_pos (by rw [← HSN.out]; exact h5)]; rfl)
          have HR8 := Lib.hid (show runS (begS 0, []) (27 :: 93 :: Z.data.toList ++ [27, 92, 97]) = (begS 0, [prE 97]) from by
            rw [osc_st _ hZl.out.1, hZl.out.2]
            unfold oscL
            rw [if_pos (by rw [← HSN.out]; exact h5)]; rfl)
          have T7 := Lib.hid (fun (W : World) (hW : Below wc.heap.size wc W) => show Calls Tryd.prog 15 #[.string ((⟨#[27, 93]⟩ : ByteArray) ++ S ++ ⟨#[7, 97]⟩), .slice (some ⟨W.heap.size, 0, none⟩) 1 1] (W.alloc (.cells #[.int .i64 1, .int .i64 97, .int .u8 0, .int .u8 0, .slice .none 0 0, .string ⟨#[]⟩, .string ⟨#[]⟩] 38)) (fun e w' => e = .returned (.bool true) ∧ Below W.heap.size W w') from
            tell1 _ (prE 97) rfl (by rw [ByteArray.size_append, ByteArray.size_append]; show 2 + S.size + _ ≤ 4096; first | (show 2 + S.size + 2 ≤ 4096; omega) | (show 2 + S.size + 3 ≤ 4096; omega)) (by rw [Go.Joins.data_append, Go.Joins.data_append]; exact HR7.out) W (HW2.out W hW).1 (HW2.out W hW).2.1)
          have T8 := Lib.hid (fun (W : World) (hW : Below wc.heap.size wc W) => show Calls Tryd.prog 15 #[.string ((⟨#[27, 93]⟩ : ByteArray) ++ Z ++ ⟨#[27, 92, 97]⟩), .slice (some ⟨W.heap.size, 0, none⟩) 1 1] (W.alloc (.cells #[.int .i64 1, .int .i64 97, .int .u8 0, .int .u8 0, .slice .none 0 0, .string ⟨#[]⟩, .string ⟨#[]⟩] 38)) (fun e w' => e = .returned (.bool true) ∧ Below W.heap.size W w') from
            tell1 _ (prE 97) rfl (by rw [ByteArray.size_append, ByteArray.size_append]; show 2 + Z.size + _ ≤ 4096; first | (show 2 + Z.size + 2 ≤ 4096; omega) | (show 2 + Z.size + 3 ≤ 4096; omega)) (by rw [Go.Joins.data_append, Go.Joins.data_append]; exact HR8.out) W (HW2.out W hW).1 (HW2.out W hW).2.1)
          go_wp2_with (first
            | (go_at_call 16; refine (lprint_any _ _).mono ?_; rintro e w' ⟨rfl, hb'⟩; have hB := up hB hb'; clear hb')
            | (go_at_call 15; (first | (with_reducible refine (T7.out _ hB).mono ?_) | (with_reducible refine (T8.out _ hB).mono ?_)); rintro e w' ⟨rfl, hb'⟩; have hB := up hB hb'; clear hb'))
          go_ret
          exact ⟨rfl, (HW2.out _ hB).2.2⟩
        · have d5 : decide ((512 : Int) < (S.size : Int)) = false := decide_eq_false (by omega)
          have d6 : decide (512 < S.size) = false := decide_eq_false (by omega)
          have HR7 := Lib.hid (show runS (begS 0, []) (27 :: 93 :: S.data.toList ++ [7, 97]) = (begS 0, [⟨5, 0, 0, 0, [], nos, S⟩, prE 97]) from by
            rw [HSL.out, osc_bel bs (fun b hb => .inl (HTA.out b hb)), List.filter_eq_self.2 HTA.out]
            unfold oscL
            rw [if_neg (by rw [← HSN.out]; exact h5), ← HSB.out]; rfl)
          have HR8 := Lib.hid (show runS (begS 0, []) (27 :: 93 :: Z.data.toList ++ [27, 92, 97]) = (begS 0, [⟨5, 0, 0, 0, [], nos, S⟩, prE 97]) from by
            rw [osc_st _ hZl.out.1, hZl.out.2]
            unfold oscL
            rw [if_neg (by rw [← HSN.out]; exact h5), ← HSB.out]; rfl)
          have T7 := Lib.hid (fun (W : World) (hW : Below wc.heap.size wc W) => show Calls Tryd.prog 15 #[.string ((⟨#[27, 93]⟩ : ByteArray) ++ S ++ ⟨#[7, 97]⟩), .slice (some ⟨W.heap.size, 0, none⟩) 2 2] (W.alloc (.cells #[.int .i64 5, .int .i64 0, .int .u8 0, .int .u8 0, .slice .none 0 0, .string ⟨#[]⟩, .string S, .int .i64 1, .int .i64 97, .int .u8 0, .int .u8 0, .slice .none 0 0, .string ⟨#[]⟩, .string ⟨#[]⟩] 38)) (fun e w' => e = .returned (.bool true) ∧ Below W.heap.size W w') from
            tell2 _ ⟨5, 0, 0, 0, [], nos, S⟩ (prE 97) rfl rfl (by rw [ByteArray.size_append, ByteArray.size_append]; show 2 + S.size + _ ≤ 4096; first | (show 2 + S.size + 2 ≤ 4096; omega) | (show 2 + S.size + 3 ≤ 4096; omega)) (by rw [Go.Joins.data_append, Go.Joins.data_append]; exact HR7.out) W (HW2.out W hW).1 (HW2.out W hW).2.1)
          have T8 := Lib.hid (fun (W : World) (hW : Below wc.heap.size wc W) => show Calls Tryd.prog 15 #[.string ((⟨#[27, 93]⟩ : ByteArray) ++ Z ++ ⟨#[27, 92, 97]⟩), .slice (some ⟨W.heap.size, 0, none⟩) 2 2] (W.alloc (.cells #[.int .i64 5, .int .i64 0, .int .u8 0, .int .u8 0, .slice .none 0 0, .string ⟨#[]⟩, .string S, .int .i64 1, .int .i64 97, .int .u8 0, .int .u8 0, .slice .none 0 0, .string ⟨#[]⟩, .string ⟨#[]⟩] 38)) (fun e w' => e = .returned (.bool true) ∧ Below W.heap.size W w') from
            tell2 _ ⟨5, 0, 0, 0, [], nos, S⟩ (prE 97) rfl rfl (by rw [ByteArray.size_append, ByteArray.size_append]; show 2 + Z.size + _ ≤ 4096; first | (show 2 + Z.size + 2 ≤ 4096; omega) | (show 2 + Z.size + 3 ≤ 4096; omega)) (by rw [Go.Joins.data_append, Go.Joins.data_append]; exact HR8.out) W (HW2.out W hW).1 (HW2.out W hW).2.1)
          go_wp2_with (first
            | (go_at_call 16; refine (lprint_any _ _).mono ?_; rintro e w' ⟨rfl, hb'⟩; have hB := up hB hb'; clear hb')
            | (go_at_call 18; refine (losc_any _ _).mono ?_; rintro e w' ⟨rfl, hb'⟩; have hB := up hB hb'; clear hb')
            | (go_at_call 15; (first | (with_reducible refine (T7.out _ hB).mono ?_) | (with_reducible refine (T8.out _ hB).mono ?_)); rintro e w' ⟨rfl, hb'⟩; have hB := up hB hb'; clear hb'))
          go_ret
          exact ⟨rfl, (HW2.out _ hB).2.2⟩
end Go.Proofs.YtefkbdmgplfgoaaDoor.Sta
