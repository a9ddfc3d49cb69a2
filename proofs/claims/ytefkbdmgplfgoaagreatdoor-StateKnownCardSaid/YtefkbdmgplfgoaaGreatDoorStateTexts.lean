/-
  What strings of text bring about: plain facts for StateTexts. The walk of StateTexts (whole).
-/
import Derived.Test.YtefkbdmgplfgoaaGreatDoorStaMath
import Derived.Test.YtefkbdmgplfgoaaGreatDoorStaAm
import Derived.BigQuiet
import Derived.Deep.QuietTactic
import Derived.Deep.CutBlock
namespace Go.Proofs.YtefkbdmgplfgoaaGreatDoor.Sta
open Utf Par

/-- a byte of text -/
def txB (b : UInt8) : Bool := decide (32 ≤ b.toNat) && !decide (b.toNat = 127)
theorem txB_iff (b : UInt8) : txB b = true ↔ 32 ≤ b.toNat ∧ b.toNat ≠ 127 := by unfold txB; simp
/-- a byte that strings drop -/
def noB (b : UInt8) : Bool := decide (b.toNat = 1) || decide (b.toNat = 127) || decide (b.toNat = 10)
theorem noB_iff (b : UInt8) : noB b = true ↔ b.toNat = 1 ∨ b.toNat = 127 ∨ b.toNat = 10 := by unfold noB; simp [or_assoc]
/-- an OSC string as it stands after these bytes of text -/
def oscP (bs : List UInt8) : PS := if 512 < bs.length then spoS 6 else { begS 6 with tx := ⟨bs.toArray⟩ }
theorem oscP_st (bs : List UInt8) : (oscP bs).st = 6 := by unfold oscP; split <;> rfl
theorem oscP_utf (bs : List UInt8) : (oscP bs).utf = [] := by unfold oscP; split <;> rfl
theorem one_osc (t : List UInt8) (b : UInt8) (h : txB b = true) : oneS (oscP t) b = (oscP (t ++ [b]), []) := by
  rw [txB_iff] at h
  unfold oneS
  rw [if_neg (by rw [oscP_st]; omega), if_neg (by omega), if_neg (by omega), if_neg (by rw [oscP_st]; omega), if_pos (by rw [oscP_st]; omega)]
  unfold witS
  rw [if_neg (by omega)]
  unfold oscP
  by_cases h1 : 512 < t.length
  · rw [if_pos h1, if_pos (show b.toNat < 32 ∨ b.toNat = 127 ∨ (spoS 6).st = 13 ∨ (spoS 6).bad = true from Or.inr (Or.inr (Or.inr rfl))), if_pos (by rw [List.length_append, List.length_singleton]; omega)]
  · rw [if_neg h1, if_neg (by show ¬ (_ ∨ _ ∨ (6 : Int) = 13 ∨ (false = true)); simp; omega)]
    by_cases h2 : t.length = 512
    · rw [if_pos (by show t.toArray.size = 512; simpa using h2), if_pos (by simp; omega)]; rfl
    · rw [if_neg (by show ¬ t.toArray.size = 512; simpa using h2), if_neg (by simp; omega)]
      refine Prod.ext ?_ rfl
      show ({ begS 6 with tx := (⟨t.toArray⟩ : ByteArray) ++ bs1 b } : PS) = { begS 6 with tx := ⟨(t ++ [b]).toArray⟩ }
      rw [show (⟨t.toArray⟩ : ByteArray) ++ bs1 b = ⟨(t ++ [b]).toArray⟩ from ByteArray.ext (by rw [ByteArray.data_append]; simp [bs1])]
theorem one_drop (t : List UInt8) (b : UInt8) (h : noB b = true) : oneS (oscP t) b = (oscP t, []) := by
  rw [noB_iff] at h
  unfold oneS
  rw [if_neg (by rw [oscP_st]; omega), if_neg (by omega), if_neg (by omega), if_neg (by rw [oscP_st]; omega), if_pos (by rw [oscP_st]; omega)]
  unfold witS
  rw [if_neg (by omega), if_pos (by omega)]
/-- what of a text with noise counts -/
theorem run_osc (s : List UInt8) : ∀ (t : List UInt8) (l : List EV), (∀ b ∈ s, txB b = true ∨ noB b = true) → runS (oscP t, l) s = (oscP (t ++ s.filter txB), l) := by
  induction s with
  | nil => intro t l _; simp [runS]
  | cons b s ih =>
    intro t l h
    rw [runS]
    rcases h b (by simp) with hb | hb
    · rw [one_osc t b hb, List.append_nil, ih _ _ (fun x hx => h x (by simp [hx])), List.filter_cons_of_pos hb]
      simp
    · rw [one_drop t b hb, List.append_nil, ih _ _ (fun x hx => h x (by simp [hx])), List.filter_cons_of_neg ?_]
      rw [noB_iff] at hb
      rw [txB_iff]
      omega
theorem osc_beg : runS (begS 0, []) [27, 93] = (oscP [], []) := by kernel_rfl
theorem one_away (b : UInt8) (h : txB b = true ∨ b.toNat = 7) : oneS (begS 13) b = (begS 13, []) := by
  rw [txB_iff] at h
  unfold oneS
  rw [if_neg (by show ¬ ((13 : Int) = 0 ∧ _); omega), if_neg (by omega), if_neg (by omega), if_neg (by show ¬ ((13 : Int) = 7 ∨ (13 : Int) = 12 ∨ (13 : Int) = 14); omega), if_pos (by show (13 : Int) = 6 ∨ (13 : Int) = 11 ∨ (13 : Int) = 13; omega)]
  unfold witS
  rw [if_neg (by show ¬ ((13 : Int) = 6 ∧ _); omega), if_pos (show b.toNat < 32 ∨ b.toNat = 127 ∨ (begS 13).st = 13 ∨ (begS 13).bad = true from Or.inr (Or.inr (Or.inl rfl)))]
theorem run_away (s : List UInt8) : ∀ l : List EV, (∀ b ∈ s, txB b = true) → runS (begS 13, l) s = (begS 13, l) := by
  induction s with
  | nil => intro l _; rfl
  | cons b s ih =>
    intro l h
    rw [runS, one_away b (.inl (h b (by simp))), List.append_nil]
    exact ih l (fun x hx => h x (by simp [hx]))
theorem away_all (o : UInt8) (s : List UInt8) (ho : o = 88 ∨ o = 94 ∨ o = 95) (h : ∀ b ∈ s, txB b = true) : runS (begS 0, []) (27 :: o :: s ++ [7, 27, 92, 97]) = (begS 0, [prE 97]) := by
  rw [List.cons_append, List.cons_append, show (27 :: o :: (s ++ [7, 27, 92, 97])) = [27, o] ++ (s ++ [7, 27, 92, 97]) from rfl, runS_app]
  have h1 : runS (begS 0, []) [27, o] = (begS 13, []) := by rcases ho with rfl | rfl | rfl <;> kernel_rfl
  rw [h1, runS_app, run_away s _ h]
  rfl
/-- a string that another sequence interrupts -/
theorem osc_cut (s : List UInt8) (h : ∀ b ∈ s, txB b = true) : runS (begS 0, []) (27 :: 93 :: s ++ [27, 91, 109]) = (begS 0, [⟨4, 0, 0, 109, [], nos, nos⟩]) := by
  rw [List.cons_append, List.cons_append, show (27 :: 93 :: (s ++ [27, 91, 109])) = [27, 93] ++ (s ++ [27, 91, 109]) from rfl, runS_app, osc_beg, runS_app, run_osc s [] [] (fun b hb => .inl (h b hb))]
  generalize [] ++ s.filter txB = t
  have h1 : oneS (oscP t) 27 = ({ oscP t with st := 7 }, []) := by
    unfold oneS
    rw [if_neg (by rw [oscP_st]; omega), if_neg (by decide), if_pos (by decide), if_pos (by rw [oscP_st]; omega), oscP_st]
    rfl
  rw [runS, h1, runS]
  have h2 : oneS ({ oscP t with st := 7 } : PS) 91 = (begS 3, []) := by
    unfold oneS
    rw [if_neg (by show ¬ ((7 : Int) = 0 ∧ _); omega), if_neg (by decide), if_neg (by decide), if_pos (by show (7 : Int) = 7 ∨ _; omega)]
    unfold endS
    rw [if_pos (by decide)]
    kernel_rfl
  show runS ((oneS ({ oscP t with st := 7 } : PS) 91).1, [] ++ [] ++ (oneS ({ oscP t with st := 7 } : PS) 91).2) [109] = _
  rw [h2]
  kernel_rfl
/-- the end of an OSC string -/
def oscL (s : List UInt8) : List EV := if 512 < s.length then [] else [⟨5, 0, 0, 0, [], nos, ⟨s.toArray⟩⟩]
theorem tol_osc (t : List UInt8) (n : Int) : tolS ({ oscP t with st := n } : PS) (osE { oscP t with st := n }) = (begS 0, oscL t) := by
  unfold tolS oscL oscP
  by_cases h : 512 < t.length
  · rw [if_pos h, if_pos h]; rfl
  · rw [if_neg h, if_neg h]; rfl
theorem osc_bel (s : List UInt8) (h : ∀ b ∈ s, txB b = true ∨ noB b = true) : runS (begS 0, []) (27 :: 93 :: s ++ [7, 97]) = (begS 0, oscL (s.filter txB) ++ [prE 97]) := by
  rw [List.cons_append, List.cons_append, show (27 :: 93 :: (s ++ [7, 97])) = [27, 93] ++ (s ++ [7, 97]) from rfl, runS_app, osc_beg, runS_app, run_osc s [] [] h, List.nil_append]
  generalize s.filter txB = t
  have h1 : oneS (oscP t) 7 = (begS 0, oscL t) := by
    unfold oneS
    rw [if_neg (by rw [oscP_st]; rintro ⟨h, _⟩; omega), if_neg (by decide), if_neg (by decide), if_neg (by rw [oscP_st]; omega), if_pos (by rw [oscP_st]; omega)]
    unfold witS
    rw [if_pos ⟨oscP_st t, by decide⟩]
    have := tol_osc t 6
    have e : ({ oscP t with st := 6 } : PS) = oscP t := by unfold oscP; split <;> rfl
    rw [e] at this
    exact this
  rw [runS, h1, runS_ev]
  rfl
theorem osc_st (s : List UInt8) (h : ∀ b ∈ s, txB b = true ∨ noB b = true) : runS (begS 0, []) (27 :: 93 :: s ++ [27, 92, 97]) = (begS 0, oscL (s.filter txB) ++ [prE 97]) := by
  rw [List.cons_append, List.cons_append, show (27 :: 93 :: (s ++ [27, 92, 97])) = [27, 93] ++ (s ++ [27, 92, 97]) from rfl, runS_app, osc_beg, runS_app, run_osc s [] [] h, List.nil_append]
  generalize s.filter txB = t
  have h1 : oneS (oscP t) 27 = ({ oscP t with st := 7 }, []) := by
    unfold oneS
    rw [if_neg (by rw [oscP_st]; omega), if_neg (by decide), if_pos (by decide), if_pos (by rw [oscP_st]; omega), oscP_st]
    rfl
  rw [runS, h1, runS]
  have h2 : oneS ({ oscP t with st := 7 } : PS) 92 = (begS 0, oscL t) := by
    unfold oneS
    rw [if_neg (by show ¬ ((7 : Int) = 0 ∧ _); omega), if_neg (by decide), if_neg (by decide), if_pos (by show (7 : Int) = 7 ∨ _; omega)]
    unfold endS
    rw [if_neg (by decide), if_pos rfl]
    exact tol_osc t 7
  show runS ((oneS ({ oscP t with st := 7 } : PS) 92).1, [] ++ [] ++ (oneS ({ oscP t with st := 7 } : PS) 92).2) [97] = _
  rw [h2, runS_ev]
  rfl
end Go.Proofs.YtefkbdmgplfgoaaGreatDoor.Sta
namespace Go.Proofs.YtefkbdmgplfgoaaGreatDoor.Sta
open Go.RowKit Utf Par

theorem tell_run (S : ByteArray) (L : List EV) (hs : S.size ≤ 4096) (h : runS (begS 0, []) S.data.toList = (begS 0, L)) : tellB S L = true := by
  have hl : ¬ 4096 < S.data.toList.length := by simpa using hs
  unfold tellB fedS
  rw [if_pos (by decide), if_neg hl, h]
  rw [(evB_iff L L).2 rfl, (eqS_iff (begS 0) (begS 0)).2 rfl]
  rfl
/-- one event that holds no parameters -/
theorem tell1 (S : ByteArray) (e : EV) (he : e.ps = []) (hs : S.size ≤ 4096) (h : runS (begS 0, []) S.data.toList = (begS 0, [e])) (w : World) (hm : Mk w) (hf : Tf w) :
    Calls Tryz.prog 22 #[.string S, .slice (some ⟨w.heap.size, 0, none⟩) 1 1] (w.alloc (.cells #[.int .i64 e.k, .int .i64 e.c, .int .u8 (e.pr.toNat : Int), .int .u8 (e.fi.toNat : Int), .slice .none 0 0, .string e.it, .string e.tx] 27)) fun e w' => e = .returned (.bool true) ∧ Below w.heap.size w w' :=
  tells_true S [⟨e, .none, 0, 0⟩] 1 rfl (by decide) w (by
    intro x hx
    simp only [List.mem_cons, List.not_mem_nil, or_false] at hx
    subst hx
    show RL w (.slice .none 0 0) e.ps
    rw [he]; exact RL.nil _) (fun x hx => by
      simp only [List.map_cons, List.map_nil, List.mem_cons, List.not_mem_nil, or_false] at hx
      rw [hx, he]; exact kq_nil) (tell_run S _ hs h) hm hf (by omega)
/-- two events that hold no parameters -/
theorem tell2 (S : ByteArray) (e f : EV) (he : e.ps = []) (hf' : f.ps = []) (hs : S.size ≤ 4096) (h : runS (begS 0, []) S.data.toList = (begS 0, [e, f])) (w : World) (hm : Mk w) (hf : Tf w) :
    Calls Tryz.prog 22 #[.string S, .slice (some ⟨w.heap.size, 0, none⟩) 2 2] (w.alloc (.cells #[.int .i64 e.k, .int .i64 e.c, .int .u8 (e.pr.toNat : Int), .int .u8 (e.fi.toNat : Int), .slice .none 0 0, .string e.it, .string e.tx, .int .i64 f.k, .int .i64 f.c, .int .u8 (f.pr.toNat : Int), .int .u8 (f.fi.toNat : Int), .slice .none 0 0, .string f.it, .string f.tx] 27)) fun e w' => e = .returned (.bool true) ∧ Below w.heap.size w w' :=
  tells_true S [⟨e, .none, 0, 0⟩, ⟨f, .none, 0, 0⟩] 2 rfl (by decide) w (by
    intro x hx
    simp only [List.mem_cons, List.not_mem_nil, or_false] at hx
    rcases hx with rfl | rfl
    · show RL w (.slice .none 0 0) e.ps
      rw [he]; exact RL.nil _
    · show RL w (.slice .none 0 0) f.ps
      rw [hf']; exact RL.nil _) (fun x hx => by
      simp only [List.map_cons, List.map_nil, List.mem_cons, List.not_mem_nil, or_false] at hx
      rcases hx with hx | hx
      · rw [hx, he]; exact kq_nil
      · rw [hx, hf']; exact kq_nil) (tell_run S _ hs h) hm hf (by omega)
/-- what is taken of the first k bytes -/
def tk (s : ByteArray) (k : Nat) : List UInt8 := (s.data.toList.take k).filter txB
theorem tk_len (s : ByteArray) (k : Nat) : (tk s k).length ≤ k := by
  unfold tk
  have h1 := List.length_filter_le txB (s.data.toList.take k)
  have h2 := List.length_take_le k s.data.toList
  omega
theorem tk_all (s : ByteArray) (k : Nat) : ∀ b ∈ tk s k, txB b = true := fun _ hb => (List.mem_filter.1 hb).2
theorem ba_get (s : ByteArray) (k : Nat) (h : k < s.size) : s.data.toList[k]? = some s[k] := by
  rw [List.getElem?_eq_getElem (by simpa using h)]; rfl
theorem tk_snoc (s : ByteArray) (k : Nat) (h : k < s.size) : tk s (k + 1) = tk s k ++ (if txB s[k] then [s[k]] else []) := by
  unfold tk
  rw [List.take_add_one, ba_get s k h, List.filter_append]
  cases hc : txB s[k] <;> simp [hc]
theorem noisy_ok (S : ByteArray) (bs : List UInt8) (h : S.data.toList = bs) (ht : ∀ b ∈ bs, txB b = true) (hs : S.size ≤ 600) (j : Nat) (hj : j ≤ S.size) :
    (S.extract 0 j ++ ⟨#[1, 127, 10]⟩ ++ S.extract j S.size).size ≤ 603 ∧ Hid ((∀ b ∈ (S.extract 0 j ++ ⟨#[1, 127, 10]⟩ ++ S.extract j S.size).data.toList, txB b = true ∨ noB b = true) ∧ (S.extract 0 j ++ ⟨#[1, 127, 10]⟩ ++ S.extract j S.size).data.toList.filter txB = bs) := by
  have hl : bs.length = S.size := by rw [← h]; simp
  have e : (S.extract 0 j ++ ⟨#[1, 127, 10]⟩ ++ S.extract j S.size).data.toList = bs.take j ++ [1, 127, 10] ++ bs.drop j := by
    rw [Go.Joins.data_append, Go.Joins.data_append, ByteArray.data_extract, ByteArray.data_extract, Array.toList_extract, Array.toList_extract, h]
    simp [List.extract]
    rw [List.take_of_length_le (by simp; omega)]
  have hsz : ∀ B : ByteArray, B.size = B.data.toList.length := fun B => by simp
  refine ⟨?_, ⟨?_, ?_⟩⟩
  · rw [hsz, e]
    simp
    omega
  · rw [e]
    intro b hb
    rcases List.mem_append.1 hb with hb | hb
    · rcases List.mem_append.1 hb with hb | hb
      · exact .inl (ht b (List.mem_of_mem_take hb))
      · simp at hb
        rcases hb with rfl | rfl | rfl
        · right; decide
        · right; decide
        · right; decide
    · exact .inl (ht b (List.mem_of_mem_drop hb))
  · rw [e, List.filter_append, List.filter_append, List.filter_eq_self.2 (fun b hb => ht b (List.mem_of_mem_take hb)), List.filter_eq_self.2 (fun b hb => ht b (List.mem_of_mem_drop hb))]
    rw [show [1, 127, 10].filter txB = [] from by decide, List.append_nil, List.take_append_drop]
theorem infoU8 : (Tryz.prog.info? 5).map (fun i => (i.zero, i.size, i.bytes)) = some (some (.int .u8 0), 1, 1) := by kernel_rfl
theorem str_own {w : World} {B n : Nat} {v : Value} {l : List UInt8} (h : w.ownsRow B 5 1 v n (cB l)) : (convert 22 9 v).run Tryz.prog w = .ok (.string ⟨l.toArray⟩) w := by
  have hl : n = l.length := by have := h.1; rw [cB_len] at this; omega
  subst hl
  obtain ⟨A, c, rfl, _, hr⟩ := own_slice h
  exact str_of w A c l hr

end Go.Proofs.YtefkbdmgplfgoaaGreatDoor.Sta
