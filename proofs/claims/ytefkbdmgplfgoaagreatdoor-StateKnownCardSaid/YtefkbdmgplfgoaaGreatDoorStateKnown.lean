/-
  The walk of StateKnown.
-/
import Derived.Test.YtefkbdmgplfgoaaGreatDoorStateTexts
import Derived.Test.YtefkbdmgplfgoaaGreatDoorParShelf
import Derived.Deep.CutBlock
import Derived.Deep.RegionHeld3
import Derived.Deep.RegionWith
import Derived.Laws.OwnMore
import Derived.Lib.SlBytesConst
import Derived.Deep.MidRow
namespace Go.Proofs.YtefkbdmgplfgoaaGreatDoor.Sta
open Go.RowKit Utf Par

def xs513 : ByteArray := ⟨(Lib.repeatL (⟨#[120]⟩ : ByteArray).data.toList 513).toArray⟩
def xs512 : ByteArray := xs513.extract 1 513
theorem rep_list (c : UInt8) (n : Nat) : Lib.repeatL [c] n = List.replicate n c := by
  induction n with
  | zero => rfl
  | succ n ih => rw [Lib.repeatL, ih]; rfl
theorem xs513_list : xs513.data.toList = List.replicate 513 120 := by
  show (Lib.repeatL [120] 513).toArray.toList = _
  rw [rep_list]
theorem xs512_list : xs512.data.toList = List.replicate 512 120 := by
  unfold xs512
  rw [ByteArray.data_extract, Array.toList_extract, xs513_list]
  show ((List.replicate 513 120).drop 1).take (513 - 1) = _
  rw [List.drop_replicate, List.take_replicate]
  rfl
theorem xs512_arr : xs512 = ⟨(List.replicate 512 120).toArray⟩ := by
  refine ByteArray.ext (Array.ext' ?_)
  rw [xs512_list]
theorem rep_tx (n : Nat) : ∀ b ∈ List.replicate n (120 : UInt8), txB b = true := fun b hb => by
  rw [(List.mem_replicate.1 hb).2]; decide
theorem osc_bel1 (s : List UInt8) (h : ∀ b ∈ s, txB b = true) : runS (begS 0, []) (27 :: 93 :: s ++ [7]) = (begS 0, oscL s) := by
  rw [List.cons_append, List.cons_append, show (27 :: 93 :: (s ++ [7])) = [27, 93] ++ (s ++ [7]) from rfl, runS_app, osc_beg, runS_app, run_osc s [] [] (fun b hb => .inl (h b hb)), List.nil_append, List.filter_eq_self.2 h]
  have h1 : oneS (oscP s) 7 = (begS 0, oscL s) := by
    unfold oneS
    rw [if_neg (by rw [oscP_st]; rintro ⟨h, _⟩; omega), if_neg (by decide), if_neg (by decide), if_neg (by rw [oscP_st]; omega), if_pos (by rw [oscP_st]; omega)]
    unfold witS
    rw [if_pos ⟨oscP_st s, by decide⟩]
    have := tol_osc s 6
    have e : ({ oscP s with st := 6 } : PS) = oscP s := by unfold oscP; split <;> rfl
    rw [e] at this
    exact this
  rw [runS, h1]
  rfl
/-- a device control string as it stands after these bytes of text -/
def dcsP (bs : List UInt8) : PS := if 512 < bs.length then spoS 11 else { begS 11 with fi := 113, tx := ⟨bs.toArray⟩ }
theorem dcsP_st (bs : List UInt8) : (dcsP bs).st = 11 := by unfold dcsP; split <;> rfl
theorem one_dcs (t : List UInt8) (b : UInt8) (h : txB b = true) : oneS (dcsP t) b = (dcsP (t ++ [b]), []) := by
  rw [txB_iff] at h
  unfold oneS
  rw [if_neg (by rw [dcsP_st]; omega), if_neg (by omega), if_neg (by omega), if_neg (by rw [dcsP_st]; omega), if_pos (by rw [dcsP_st]; omega)]
  unfold witS
  rw [if_neg (by rw [dcsP_st]; omega)]
  unfold dcsP
  by_cases h1 : 512 < t.length
  · rw [if_pos h1, if_pos (show b.toNat < 32 ∨ b.toNat = 127 ∨ (spoS 11).st = 13 ∨ (spoS 11).bad = true from Or.inr (Or.inr (Or.inr rfl))), if_pos (by rw [List.length_append, List.length_singleton]; omega)]
  · rw [if_neg h1, if_neg (by show ¬ (_ ∨ _ ∨ (11 : Int) = 13 ∨ (false = true)); simp; omega)]
    by_cases h2 : t.length = 512
    · rw [if_pos (by show t.toArray.size = 512; simpa using h2), if_pos (by simp; omega)]; rfl
    · rw [if_neg (by show ¬ t.toArray.size = 512; simpa using h2), if_neg (by simp; omega)]
      refine Prod.ext ?_ rfl
      show ({ begS 11 with fi := 113, tx := (⟨t.toArray⟩ : ByteArray) ++ bs1 b } : PS) = { begS 11 with fi := 113, tx := ⟨(t ++ [b]).toArray⟩ }
      rw [show (⟨t.toArray⟩ : ByteArray) ++ bs1 b = ⟨(t ++ [b]).toArray⟩ from ByteArray.ext (by rw [ByteArray.data_append]; simp [bs1])]
theorem run_dcs (s : List UInt8) : ∀ (t : List UInt8) (l : List EV), (∀ b ∈ s, txB b = true) → runS (dcsP t, l) s = (dcsP (t ++ s), l) := by
  induction s with
  | nil => intro t l _; simp [runS]
  | cons b s ih =>
    intro t l h
    rw [runS, one_dcs t b (h b (by simp)), List.append_nil, ih _ _ (fun x hx => h x (by simp [hx]))]
    simp
theorem dcs_long (s : List UInt8) (h : ∀ b ∈ s, txB b = true) (hl : 512 < s.length) : runS (begS 0, []) (27 :: 80 :: 113 :: s ++ [27, 92]) = (begS 0, []) := by
  rw [show (27 :: 80 :: 113 :: s ++ [27, 92]) = [27, 80, 113] ++ (s ++ [27, 92]) from rfl, runS_app]
  have h0 : runS (begS 0, []) [27, 80, 113] = (dcsP [], []) := by kernel_rfl
  rw [h0, runS_app, run_dcs s [] [] h, List.nil_append]
  unfold dcsP
  rw [if_pos hl]
  rfl
theorem q1 : tellB ((⟨#[27, 93]⟩ : ByteArray) ++ xs513 ++ ⟨#[7]⟩) [] = true := by
  have e : ((⟨#[27, 93]⟩ : ByteArray) ++ xs513 ++ ⟨#[7]⟩).data.toList = 27 :: 93 :: List.replicate 513 120 ++ [7] := by
    rw [Go.Joins.data_append, Go.Joins.data_append, xs513_list]; rfl
  refine tell_run _ _ ?_ ?_
  · rw [show ∀ B : ByteArray, B.size = B.data.toList.length from fun B => by simp, e]; simp only [List.length_append, List.length_cons, List.length_replicate, List.length_nil]; decide
  · rw [e, osc_bel1 _ (rep_tx 513)]
    unfold oscL
    rw [if_pos (by rw [List.length_replicate]; decide)]
theorem q2 : tellB ((⟨#[27, 93]⟩ : ByteArray) ++ xs512 ++ ⟨#[7]⟩) [⟨5, 0, 0, 0, [], nos, xs512⟩] = true := by
  have e : ((⟨#[27, 93]⟩ : ByteArray) ++ xs512 ++ ⟨#[7]⟩).data.toList = 27 :: 93 :: List.replicate 512 120 ++ [7] := by
    rw [Go.Joins.data_append, Go.Joins.data_append, xs512_list]; rfl
  refine tell_run _ _ ?_ ?_
  · rw [show ∀ B : ByteArray, B.size = B.data.toList.length from fun B => by simp, e]; simp only [List.length_append, List.length_cons, List.length_replicate, List.length_nil]; decide
  · rw [e, osc_bel1 _ (rep_tx 512)]
    unfold oscL
    rw [if_neg (by rw [List.length_replicate]; decide), xs512_arr]
theorem q3 : tellB ((⟨#[27, 80, 113]⟩ : ByteArray) ++ xs513 ++ ⟨#[27, 92]⟩) [] = true := by
  have e : ((⟨#[27, 80, 113]⟩ : ByteArray) ++ xs513 ++ ⟨#[27, 92]⟩).data.toList = 27 :: 80 :: 113 :: List.replicate 513 120 ++ [27, 92] := by
    rw [Go.Joins.data_append, Go.Joins.data_append, xs513_list]; rfl
  refine tell_run _ _ ?_ ?_
  · rw [show ∀ B : ByteArray, B.size = B.data.toList.length from fun B => by simp, e]; simp only [List.length_append, List.length_cons, List.length_replicate, List.length_nil]; decide
  · rw [e, dcs_long _ (rep_tx 513) (by rw [List.length_replicate]; decide)]
theorem q4 : tellB ⟨#[27, 93, 97, 27, 27, 92, 98]⟩ [esE nos 92, prE 98] = true := by decide +kernel
theorem q5 : tellB ⟨#[27, 80, 48, 10, 113, 7, 27, 92]⟩ [⟨6, 0, 0, 113, [[0]], nos, nos⟩] = true := by decide +kernel
theorem q6 : tellB ⟨#[127, 97, 27, 91, 49, 127, 109]⟩ [prE 97, ⟨4, 0, 0, 109, [[1]], nos, nos⟩] = true := by decide +kernel
theorem q7 : tellB ⟨#[27, 91, 195, 169]⟩ [prE 233] = true := by decide +kernel
theorem q8 : tellB ⟨#[27, 40, 195, 169]⟩ [prE 233] = true := by decide +kernel
theorem q9 : tellB ⟨#[27, 91, 49, 58, 50, 59, 109]⟩ [⟨4, 0, 0, 109, [[1, 2], [-1]], nos, nos⟩] = true := by decide +kernel
theorem q10 : tellB ⟨#[27, 36, 40, 41, 98, 194, 133]⟩ [] = true := by decide +kernel
theorem q11 : tellB ⟨#[27, 91, 33, 112, 27, 91, 32, 33, 112]⟩ [⟨4, 0, 0, 112, [], ⟨#[33]⟩, nos⟩, ⟨4, 0, 0, 112, [], ⟨#[32, 33]⟩, nos⟩] = true := by decide +kernel
theorem q12 : tellB ⟨#[27, 91, 32, 49, 112]⟩ [] = true := by decide +kernel
theorem q13 : tellB ⟨#[27, 91, 49, 60, 112]⟩ [] = true := by decide +kernel
set_option maxRecDepth 100000 in
set_option maxHeartbeats 8000000 in
/-- more bytes than a batch holds -/
theorem feed_big (A : Option Addr) (n c : Nat) (w : World) (hm : Mk w) (ht : Tf w) (hn : 4096 < n) (hn2 : n ≤ 1000000) :
    Calls Tryz.prog 19 #[.agg #[.int .i64 0, .slice none 0 0, .int .u8 0, .int .u8 0, .slice none 0 0, .string ⟨#[]⟩, .string ⟨#[]⟩, .bool false], .slice A n c] w fun e w' => e = .returned (.tuple #[.agg #[.int .i64 0, .slice none 0 0, .int .u8 0, .int .u8 0, .slice none 0 0, .string ⟨#[]⟩, .string ⟨#[]⟩, .bool false], .slice none 0 0, .int .i64 3]) ∧ Below w.heap.size w w' := by
  have hx1 := below_box w (.cells #[.int .i64 0, .slice none 0 0, .int .u8 0, .int .u8 0, .slice none 0 0, .string ⟨#[]⟩, .string ⟨#[]⟩, .bool false] 25)
  have hx2 : Below w.heap.size w ((w.alloc (.cells #[.int .i64 0, .slice none 0 0, .int .u8 0, .int .u8 0, .slice none 0 0, .string ⟨#[]⟩, .string ⟨#[]⟩, .bool false] 25)).alloc (.cells #[.int .i64 0, .slice none 0 0, .int .u8 0, .int .u8 0, .slice none 0 0, .string ⟨#[]⟩, .string ⟨#[]⟩, .bool false] 25)) := up hx1 (below_box _ _)
  have hc := check6_any (begS 0) none none 0 0 0 0 _ ((RS.nil w (begS 0) rfl rfl).keep hx2) (hm.keep hx2) (ht.keep hx2) (by show (-100000 : Int) ≤ 0 ∧ (0 : Int) ≤ 100000; omega) (by show (0 : Nat) ≤ _; omega) kq_nil (by show (0 : Nat) ≤ _; omega) (by show (0 : Nat) ≤ _; omega)
  rw [if_pos (by decide)] at hc
  have HC := Lib.hid (show Calls Tryz.prog 9 #[.agg #[.int .i64 0, .slice none 0 0, .int .u8 0, .int .u8 0, .slice none 0 0, .string ⟨#[]⟩, .string ⟨#[]⟩, .bool false]] _ _ from hc)
  have hp2 := (Box.new w #[.int .i64 0, .slice none 0 0, .int .u8 0, .int .u8 0, .slice none 0 0, .string ⟨#[]⟩, .string ⟨#[]⟩, .bool false] 25).alloc (.cells #[.int .i64 0, .slice none 0 0, .int .u8 0, .int .u8 0, .slice none 0 0, .string ⟨#[]⟩, .string ⟨#[]⟩, .bool false] 25)
  have hz2 := Box.new (w.alloc (.cells #[.int .i64 0, .slice none 0 0, .int .u8 0, .int .u8 0, .slice none 0 0, .string ⟨#[]⟩, .string ⟨#[]⟩, .bool false] 25)) #[.int .i64 0, .slice none 0 0, .int .u8 0, .int .u8 0, .slice none 0 0, .string ⟨#[]⟩, .string ⟨#[]⟩, .bool false] 25
  rw [World.size_alloc] at hz2
  have HP2 := Lib.hid hp2
  have HZ2 := Lib.hid hz2
  have HX2 := Lib.hid hx2
  have d1 : decide ((4096 : Int) < (n : Int)) = true := by simp; omega
  clear hm ht hx1 hx2 hc hp2 hz2
  go_enter Tryz.func19, Tryz.ntmps19
  go_wp2_with (go_at_call 9; refine HC.out.mono ?_; rintro e w3 ⟨rfl, hb3⟩; have hz3 := HZ2.out.keep hb3; have hp3 := HP2.out.keep hb3; have z0 := hz3.cell 0 _ rfl; have z1 := hz3.cell 1 _ rfl; have z2 := hz3.cell 2 _ rfl; have z3 := hz3.cell 3 _ rfl; have z4 := hz3.cell 4 _ rfl; have z5 := hz3.cell 5 _ rfl; have z6 := hz3.cell 6 _ rfl; have z7 := hz3.cell 7 _ rfl; have v0 := hz3.free 0 (by show 0 < 8; decide); have v1 := hz3.free 1 (by show 1 < 8; decide); have v2 := hz3.free 2 (by show 2 < 8; decide); have v3 := hz3.free 3 (by show 3 < 8; decide); have v4 := hz3.free 4 (by show 4 < 8; decide); have v5 := hz3.free 5 (by show 5 < 8; decide); have v6 := hz3.free 6 (by show 6 < 8; decide); have v7 := hz3.free 7 (by show 7 < 8; decide); have y0 := hp3.cell 0 _ rfl; have y1 := hp3.cell 1 _ rfl; have y2 := hp3.cell 2 _ rfl; have y3 := hp3.cell 3 _ rfl; have y4 := hp3.cell 4 _ rfl; have y5 := hp3.cell 5 _ rfl; have y6 := hp3.cell 6 _ rfl; have y7 := hp3.cell 7 _ rfl; have HZ3 := Lib.hid hz3; have HP3 := Lib.hid hp3; have HB3 := Lib.hid (up HX2.out hb3); have hl3 : w.heap.size + 1 < w3.heap.size := hz3.1; clear hz3 hp3 hb3)
  refine bodyPost_ret (ret_cell3 rfl _ _ ⟨w.heap.size + 1, 0, none⟩ _ rfl (load_par8 _ _ _ _ _ _ _ _ _ _ (box_set8 _ _ _ _ _ _ _ _ HZ3.out))) rfl ?_
  exact ⟨rfl, below_set8 _ _ _ _ _ _ _ _ _ HB3.out (by omega)⟩
set_option maxRecDepth 100000 in
set_option maxHeartbeats 8000000 in
/-- a step at a parse that is not valid -/
theorem step_bad (w : World) (hm : Mk w) (ht : Tf w) :
    Calls Tryz.prog 16 #[.agg #[.int .i64 1, .slice none 0 0, .int .u8 0, .int .u8 0, .slice none 0 0, .string ⟨#[]⟩, .string ⟨#[]⟩, .bool true], .int .u8 97] w fun e w' => ∃ Au cu Aq cq Av cv, e = .returned (.tuple #[.agg #[.int .i64 0, .slice Au 0 cu, .int .u8 0, .int .u8 0, .slice Aq 0 cq, .string ⟨#[]⟩, .string ⟨#[]⟩, .bool false], .slice Av 0 cv, .int .i64 160]) ∧ RS w' (.slice Au 0 cu) (.slice Aq 0 cq) (begS 0) ∧ Below w.heap.size w w' := by
  have hb0 : Below w.heap.size w ((w.alloc (.cells #[.int .i64 1, .slice none 0 0, .int .u8 0, .int .u8 0, .slice none 0 0, .string ⟨#[]⟩, .string ⟨#[]⟩, .bool true] 25)).alloc (.cells #[.int .i64 0, .slice none 0 0, .int .u8 0, .int .u8 0, .slice none 0 0, .string ⟨#[]⟩, .string ⟨#[]⟩, .bool false] 25)) := up (below_box _ _) (below_box _ _)
  have hx1 := (Box.new w #[.int .i64 1, .slice none 0 0, .int .u8 0, .int .u8 0, .slice none 0 0, .string ⟨#[]⟩, .string ⟨#[]⟩, .bool true] 25).alloc (.cells #[.int .i64 0, .slice none 0 0, .int .u8 0, .int .u8 0, .slice none 0 0, .string ⟨#[]⟩, .string ⟨#[]⟩, .bool false] 25)
  have hx2 := Box.new (w.alloc (.cells #[.int .i64 1, .slice none 0 0, .int .u8 0, .int .u8 0, .slice none 0 0, .string ⟨#[]⟩, .string ⟨#[]⟩, .bool true] 25)) #[.int .i64 0, .slice none 0 0, .int .u8 0, .int .u8 0, .slice none 0 0, .string ⟨#[]⟩, .string ⟨#[]⟩, .bool false] 25
  rw [World.size_alloc] at hx2
  have HM := Lib.hid hm
  have HT := Lib.hid ht
  have HX1 := Lib.hid hx1
  have HX2 := Lib.hid hx2
  have HB0 := Lib.hid hb0
  clear hm ht hx1 hx2 hb0
  go_enter Tryz.func16, Tryz.ntmps16
  go_upto_region 1 with fail
  generalize ((w.alloc (.cells #[.int .i64 1, .slice none 0 0, .int .u8 0, .int .u8 0, .slice none 0 0, .string ⟨#[]⟩, .string ⟨#[]⟩, .bool true] 25)).alloc (.cells #[.int .i64 0, .slice none 0 0, .int .u8 0, .int .u8 0, .slice none 0 0, .string ⟨#[]⟩, .string ⟨#[]⟩, .bool false] 25)) = w1 at HX1 HX2 HB0 ⊢
  have HFE := Lib.hid (show Calls Tryz.prog 19 #[.agg #[.int .i64 1, .slice none 0 0, .int .u8 0, .int .u8 0, .slice none 0 0, .string ⟨#[]⟩, .string ⟨#[]⟩, .bool true], .slice (some ⟨w1.heap.size, 0, none⟩) 1 1] (w1.alloc (.cells #[.int .u8 97] 5)) (FedPost (fun _ => True) (begS 0, [], 160) (w1.alloc (.cells #[.int .u8 97] 5))) from by
    have hb1 := below_box w1 (.cells #[.int .u8 97] 5)
    have h := feed_any (fun _ => True) ⟨1, [], 0, 0, [], nos, nos, true⟩ none none (some ⟨w1.heap.size, 0, none⟩) 0 0 0 0 1 1 [97] (w1.alloc (.cells #[.int .u8 97] 5)) (PX.nil _ _ _ rfl rfl) (fun _ _ => trivial) (HM.out.keep (up HB0.out hb1)) (HT.out.keep (up HB0.out hb1)) (show Rd _ _ (cB [97]) from Rd.one w1 (.int .u8 97) _) rfl (by omega) (by show (-100000 : Int) ≤ 1 ∧ (1 : Int) ≤ 100000; omega) (by show (0 : Nat) ≤ _; omega) kq_nil (by show (0 : Nat) ≤ _; omega) (by show (0 : Nat) ≤ _; omega)
    have e : fedS ⟨1, [], 0, 0, [], nos, nos, true⟩ [97] = (begS 0, [], 160) := by unfold fedS; rw [if_neg (by decide)]
    rw [e] at h
    exact h)
  have hs2 : w.heap.size ≤ w.heap.size + 1 := Nat.le_succ _
  have x0 := HX1.out.cell 0 _ rfl
  have x1 := HX1.out.cell 1 _ rfl
  have x2 := HX1.out.cell 2 _ rfl
  have x3 := HX1.out.cell 3 _ rfl
  have x4 := HX1.out.cell 4 _ rfl
  have x5 := HX1.out.cell 5 _ rfl
  have x6 := HX1.out.cell 6 _ rfl
  have x7 := HX1.out.cell 7 _ rfl
  go_wp2_with (go_at_call 19; refine HFE.out.mono ?_; rintro e w3 ⟨u, q, v, xs, he0, hp3, hv3, hm3, hx3, hb3⟩; have he1 : e = .returned (.tuple #[.agg #[.int .i64 0, u, .int .u8 0, .int .u8 0, q, .string ⟨#[]⟩, .string ⟨#[]⟩, .bool false], v, .int .i64 160]) := he0; clear he0; subst he1; obtain ⟨Au, cu, hu⟩ := hp3.1.1.form; obtain ⟨Aq, cq, hq⟩ := hp3.1.2.form; obtain ⟨Av, cv, hv, -, -⟩ := hv3.form; have hxl : xs = [] := List.map_eq_nil_iff.1 hm3; subst hxl; have hu' : u = .slice Au 0 cu := hu; have hq' : q = .slice Aq 0 cq := hq; have hv' : v = .slice Av 0 cv := hv; clear hu hq hv; subst hu'; subst hq'; subst hv'; have HRS := Lib.hid hp3.1; have hz3 := (HX2.out.keep (below_box w1 (.cells #[.int .u8 97] 5))).keep hb3; have z0 := hz3.cell 0 _ rfl; have z1 := hz3.cell 1 _ rfl; have z2 := hz3.cell 2 _ rfl; have z3 := hz3.cell 3 _ rfl; have z4 := hz3.cell 4 _ rfl; have z5 := hz3.cell 5 _ rfl; have z6 := hz3.cell 6 _ rfl; have z7 := hz3.cell 7 _ rfl; have v0 := hz3.free 0 (by show 0 < 8; decide); have v1 := hz3.free 1 (by show 1 < 8; decide); have v2 := hz3.free 2 (by show 2 < 8; decide); have v3 := hz3.free 3 (by show 3 < 8; decide); have v4 := hz3.free 4 (by show 4 < 8; decide); have v5 := hz3.free 5 (by show 5 < 8; decide); have v6 := hz3.free 6 (by show 6 < 8; decide); have v7 := hz3.free 7 (by show 7 < 8; decide); have HZ3 := Lib.hid hz3; have HB3 := Lib.hid (up (up HB0.out (below_box w1 (.cells #[.int .u8 97] 5))) hb3); clear hp3 hv3 hm3 hx3 hb3 hz3)
  have hb8 := below_set8 (w.heap.size + 1) (.int .i64 0) (.slice Au 0 cu) (.int .u8 0) (.int .u8 0) (.slice Aq 0 cq) (.string ⟨#[]⟩) (.string ⟨#[]⟩) (.bool false) HB3.out hs2
  have hrs8 : ∀ W, RS W (.slice Au 0 cu) (.slice Aq 0 cq) (begS 0) := fun W => ⟨(by obtain ⟨A, c, h1, h2, h3⟩ := HRS.out.1; exact ⟨A, c, h1, h2, Rd.nil _ _⟩), (by obtain ⟨A, c, vs, h1, h2, h3, h4, h5, h6, h7⟩ := HRS.out.2; exact ⟨A, c, [], h1, h2, h3, h4, rfl, Rd.nil _ _, fun j x p h => by simp at h⟩)⟩
  refine bodyPost_ret (ret_cell3 rfl _ _ ⟨w.heap.size + 1, 0, none⟩ _ rfl (load_par8 _ _ _ _ _ _ _ _ _ _ (box_set8 _ _ _ _ _ _ _ _ HZ3.out))) rfl ?_
  exact ⟨Au, cu, Aq, cq, Av, cv, rfl, hrs8 _, hb8⟩
theorem tellN (S : ByteArray) (h : tellB S [] = true) (hs : S.size ≤ 1000000) (w : World) (hm : Mk w) (hf : Tf w) : Calls Tryz.prog 22 #[.string S, .slice none 0 0] w fun e w' => e = .returned (.bool true) ∧ Below w.heap.size w w' :=
  (tells_any S none 0 0 [] w (RV.nil w) (fun e he => by cases he) hm hf hs).mono fun e w' ⟨he, hb⟩ => ⟨by rw [he, h], hb⟩
theorem tellT (S : ByteArray) (xs : List EQ) (n : Nat) (hn : xs.length = n) (h1 : n ≤ 1000) (ht : tellB S (xs.map (·.e)) = true) (hk : (xs.map (·.e)).all (fun e => decide (e.ps.length ≤ 100) && e.ps.all (fun p => decide (p.length ≤ 100))) = true) (hs : S.size ≤ 1000000) (w : World) (hm : Mk w) (hf : Tf w) (hq : ∀ x ∈ xs, RL w (.slice x.A x.n x.c) x.e.ps) :
    Calls Tryz.prog 22 #[.string S, .slice (some ⟨w.heap.size, 0, none⟩) n n] (w.alloc (.cells (xs.flatMap cE).toArray 27)) fun e w' => e = .returned (.bool true) ∧ Below w.heap.size w w' :=
  tells_true S xs n hn h1 w hq (kv_small _ hk) ht hm hf hs
theorem xs513_size : xs513.size = 513 := by
  have : ∀ B : ByteArray, B.size = B.data.toList.length := fun B => by simp
  rw [this, xs513_list, List.length_replicate]
theorem xs512_size : xs512.size = 512 := by
  have : ∀ B : ByteArray, B.size = B.data.toList.length := fun B => by simp
  rw [this, xs512_list, List.length_replicate]
def kBad (g : Nat) : Array Value := #[.int .i64 (-1), .slice none 0 0, .int .u8 0, .int .u8 0, .slice none 0 0, .string ⟨#[]⟩, .string ⟨#[]⟩, .bool false, .int .i64 15, .slice none 0 0, .int .u8 0, .int .u8 0, .slice none 0 0, .string ⟨#[]⟩, .string ⟨#[]⟩, .bool false, .int .i64 2, .slice none 0 0, .int .u8 0, .int .u8 0, .slice none 0 0, .string ⟨#[]⟩, .string ⟨#[]⟩, .bool false, .int .i64 4, .slice none 0 0, .int .u8 0, .int .u8 0, .slice none 0 0, .string ⟨#[]⟩, .string ⟨#[]⟩, .bool false, .int .i64 0, .slice none 0 0, .int .u8 0, .int .u8 0, .slice none 0 0, .string ⟨#[]⟩, .string ⟨#[97]⟩, .bool false, .int .i64 0, .slice (some ⟨g, 0, none⟩) 1 1, .int .u8 0, .int .u8 0, .slice none 0 0, .string ⟨#[]⟩, .string ⟨#[]⟩, .bool false, .int .i64 11, .slice none 0 0, .int .u8 0, .int .u8 0, .slice none 0 0, .string ⟨#[]⟩, .string ⟨#[]⟩, .bool false, .int .i64 3, .slice none 0 0, .int .u8 0, .int .u8 0, .slice none 0 0, .string ⟨#[]⟩, .string ⟨#[]⟩, .bool true]
def kGood (g : Nat) : Array Value := #[.int .i64 0, .slice none 0 0, .int .u8 0, .int .u8 0, .slice none 0 0, .string ⟨#[]⟩, .string ⟨#[]⟩, .bool false, .int .i64 0, .slice (some ⟨g, 0, none⟩) 1 1, .int .u8 0, .int .u8 0, .slice none 0 0, .string ⟨#[]⟩, .string ⟨#[]⟩, .bool false, .int .i64 4, .slice none 0 0, .int .u8 63, .int .u8 0, .slice none 0 0, .string ⟨#[]⟩, .string ⟨#[]⟩, .bool false, .int .i64 5, .slice none 0 0, .int .u8 0, .int .u8 0, .slice none 0 0, .string ⟨#[32]⟩, .string ⟨#[]⟩, .bool false, .int .i64 6, .slice none 0 0, .int .u8 0, .int .u8 0, .slice none 0 0, .string ⟨#[]⟩, .string ⟨#[]⟩, .bool true, .int .i64 12, .slice none 0 0, .int .u8 0, .int .u8 113, .slice none 0 0, .string ⟨#[]⟩, .string ⟨#[97]⟩, .bool false]
/-- the cells of the k-th parse -/
def PAt (cs : Array Value) (k : Nat) (x : PS) (A : Option Addr) (m c : Nat) : Prop :=
  cs[k * 8]? = some (.int .i64 x.st) ∧ cs[k * 8 + 1]? = some (.slice A m c) ∧ cs[k * 8 + 2]? = some (.int .u8 (x.pr.toNat : Int)) ∧ cs[k * 8 + 3]? = some (.int .u8 (x.fi.toNat : Int)) ∧ cs[k * 8 + 4]? = some (.slice none 0 0) ∧ cs[k * 8 + 5]? = some (.string x.it) ∧ cs[k * 8 + 6]? = some (.string x.tx) ∧ cs[k * 8 + 7]? = some (.bool x.bad)
def PUtf (g : Nat) (b : UInt8) (x : PS) (A : Option Addr) (m c : Nat) : Prop := (A = none ∧ m = 0 ∧ c = 0 ∧ x.utf = []) ∨ (A = some ⟨g, 0, none⟩ ∧ m = 1 ∧ c = 1 ∧ x.utf = [b])
set_option maxRecDepth 100000 in
theorem bad_at (g k : Nat) (hk : k < 8) : ∃ (x : PS) (A : Option Addr) (m c : Nat), PAt (kBad g) k x A m c ∧ mayS x = false ∧ x.ps = [] ∧ PUtf g 97 x A m c ∧ x.st ≤ 100 ∧ -100 ≤ x.st ∧ x.it.size ≤ 10 ∧ x.tx.size ≤ 10 := by
  rcases (show k = 0 ∨ k = 1 ∨ k = 2 ∨ k = 3 ∨ k = 4 ∨ k = 5 ∨ k = 6 ∨ k = 7 by omega) with rfl | rfl | rfl | rfl | rfl | rfl | rfl | rfl
  · exact ⟨⟨-1, [], 0, 0, [], ⟨#[]⟩, ⟨#[]⟩, false⟩, none, 0, 0, ⟨rfl, rfl, rfl, rfl, rfl, rfl, rfl, rfl⟩, by decide, rfl, .inl ⟨rfl, rfl, rfl, rfl⟩, by decide, by decide, by decide, by decide⟩
  · exact ⟨⟨15, [], 0, 0, [], ⟨#[]⟩, ⟨#[]⟩, false⟩, none, 0, 0, ⟨rfl, rfl, rfl, rfl, rfl, rfl, rfl, rfl⟩, by decide, rfl, .inl ⟨rfl, rfl, rfl, rfl⟩, by decide, by decide, by decide, by decide⟩
  · exact ⟨⟨2, [], 0, 0, [], ⟨#[]⟩, ⟨#[]⟩, false⟩, none, 0, 0, ⟨rfl, rfl, rfl, rfl, rfl, rfl, rfl, rfl⟩, by decide, rfl, .inl ⟨rfl, rfl, rfl, rfl⟩, by decide, by decide, by decide, by decide⟩
  · exact ⟨⟨4, [], 0, 0, [], ⟨#[]⟩, ⟨#[]⟩, false⟩, none, 0, 0, ⟨rfl, rfl, rfl, rfl, rfl, rfl, rfl, rfl⟩, by decide, rfl, .inl ⟨rfl, rfl, rfl, rfl⟩, by decide, by decide, by decide, by decide⟩
  · exact ⟨⟨0, [], 0, 0, [], ⟨#[]⟩, ⟨#[97]⟩, false⟩, none, 0, 0, ⟨rfl, rfl, rfl, rfl, rfl, rfl, rfl, rfl⟩, by decide, rfl, .inl ⟨rfl, rfl, rfl, rfl⟩, by decide, by decide, by decide, by decide⟩
  · exact ⟨⟨0, [97], 0, 0, [], ⟨#[]⟩, ⟨#[]⟩, false⟩, some ⟨g, 0, none⟩, 1, 1, ⟨rfl, rfl, rfl, rfl, rfl, rfl, rfl, rfl⟩, by decide, rfl, .inr ⟨rfl, rfl, rfl, rfl⟩, by decide, by decide, by decide, by decide⟩
  · exact ⟨⟨11, [], 0, 0, [], ⟨#[]⟩, ⟨#[]⟩, false⟩, none, 0, 0, ⟨rfl, rfl, rfl, rfl, rfl, rfl, rfl, rfl⟩, by decide, rfl, .inl ⟨rfl, rfl, rfl, rfl⟩, by decide, by decide, by decide, by decide⟩
  · exact ⟨⟨3, [], 0, 0, [], ⟨#[]⟩, ⟨#[]⟩, true⟩, none, 0, 0, ⟨rfl, rfl, rfl, rfl, rfl, rfl, rfl, rfl⟩, by decide, rfl, .inl ⟨rfl, rfl, rfl, rfl⟩, by decide, by decide, by decide, by decide⟩
set_option maxRecDepth 100000 in
theorem good_at (g k : Nat) (hk : k < 6) : ∃ (x : PS) (A : Option Addr) (m c : Nat), PAt (kGood g) k x A m c ∧ mayS x = true ∧ x.ps = [] ∧ PUtf g 226 x A m c ∧ x.st ≤ 100 ∧ -100 ≤ x.st ∧ x.it.size ≤ 10 ∧ x.tx.size ≤ 10 := by
  rcases (show k = 0 ∨ k = 1 ∨ k = 2 ∨ k = 3 ∨ k = 4 ∨ k = 5 by omega) with rfl | rfl | rfl | rfl | rfl | rfl
  · exact ⟨⟨0, [], 0, 0, [], ⟨#[]⟩, ⟨#[]⟩, false⟩, none, 0, 0, ⟨rfl, rfl, rfl, rfl, rfl, rfl, rfl, rfl⟩, by decide, rfl, .inl ⟨rfl, rfl, rfl, rfl⟩, by decide, by decide, by decide, by decide⟩
  · exact ⟨⟨0, [226], 0, 0, [], ⟨#[]⟩, ⟨#[]⟩, false⟩, some ⟨g, 0, none⟩, 1, 1, ⟨rfl, rfl, rfl, rfl, rfl, rfl, rfl, rfl⟩, by decide, rfl, .inr ⟨rfl, rfl, rfl, rfl⟩, by decide, by decide, by decide, by decide⟩
  · exact ⟨⟨4, [], 63, 0, [], ⟨#[]⟩, ⟨#[]⟩, false⟩, none, 0, 0, ⟨rfl, rfl, rfl, rfl, rfl, rfl, rfl, rfl⟩, by decide, rfl, .inl ⟨rfl, rfl, rfl, rfl⟩, by decide, by decide, by decide, by decide⟩
  · exact ⟨⟨5, [], 0, 0, [], ⟨#[32]⟩, ⟨#[]⟩, false⟩, none, 0, 0, ⟨rfl, rfl, rfl, rfl, rfl, rfl, rfl, rfl⟩, by decide, rfl, .inl ⟨rfl, rfl, rfl, rfl⟩, by decide, by decide, by decide, by decide⟩
  · exact ⟨⟨6, [], 0, 0, [], ⟨#[]⟩, ⟨#[]⟩, true⟩, none, 0, 0, ⟨rfl, rfl, rfl, rfl, rfl, rfl, rfl, rfl⟩, by decide, rfl, .inl ⟨rfl, rfl, rfl, rfl⟩, by decide, by decide, by decide, by decide⟩
  · exact ⟨⟨12, [], 0, 113, [], ⟨#[]⟩, ⟨#[97]⟩, false⟩, none, 0, 0, ⟨rfl, rfl, rfl, rfl, rfl, rfl, rfl, rfl⟩, by decide, rfl, .inl ⟨rfl, rfl, rfl, rfl⟩, by decide, by decide, by decide, by decide⟩
theorem kBad_one (g : Nat) : (kBad g).all (·.oneCell') = true := by kernel_rfl
theorem kGood_one (g : Nat) : (kGood g).all (·.oneCell') = true := by kernel_rfl
theorem kBad_sz (g : Nat) : (Tryz.prog.info? 59).map (·.size) = some (kBad g).size := by kernel_rfl
theorem kGood_sz (g : Nat) : (Tryz.prog.info? 60).map (·.size) = some (kGood g).size := by kernel_rfl
theorem wpList_build_as {P : Program} {ops : Array Oper} {rest : List Oper} {o : Oper} {a : Act} {w : World} {Q : Exit → Act → World → Prop} (hgd : o.guard = none) (t : TypeId) (parts : Array (Nat × Operand)) (ho : o.op = .build t parts) (cells : Array Value)
    (hb : P.built t (parts.map fun (i, x) => (i, a.eval x)).toList = some cells) (h : wpList P ops Q rest (a.put o.dst (.agg cells)) w) : wpList P ops Q (o :: rest) a w :=
  wpList_plain hgd fun _ hK => wp_build t parts ho (by rw [hb]; rfl) (by rw [hb]; exact hK _ _ h)
theorem there_last (w : World) (cs : Array Value) (t : TypeId) (n : Nat) (h : n ≤ cs.size) : (w.alloc (.cells cs t)).there w.heap.size 0 n := fun j hj => by
  have hg := heap_alloc_new w (.cells cs t)
  refine ⟨?_, frozen_of_row _ _ _ cs t hg⟩
  rw [cell_of_row _ _ _ cs t (0, 0) hg, Nat.zero_add, Array.getElem?_eq_getElem (by omega)]
  rfl
theorem there_last1 (w : World) (o : Obj) (cs : Array Value) (t : TypeId) (n : Nat) (h : n ≤ cs.size) : ((w.alloc o).alloc (.cells cs t)).there (w.heap.size + 1) 0 n := by
  have := there_last (w.alloc o) cs t n h
  rwa [World.size_alloc] at this
def bW (w : World) : World := ((w.alloc (.cells #[.int .u8 97] 5 (1, 2))).alloc (.cells #[.int .i64 0, .slice none 0 0, .int .u8 0, .int .u8 0, .slice none 0 0, .string ⟨#[]⟩, .string ⟨#[]⟩, .bool false, .int .i64 0, .slice none 0 0, .int .u8 0, .int .u8 0, .slice none 0 0, .string ⟨#[]⟩, .string ⟨#[]⟩, .bool false, .int .i64 0, .slice none 0 0, .int .u8 0, .int .u8 0, .slice none 0 0, .string ⟨#[]⟩, .string ⟨#[]⟩, .bool false, .int .i64 0, .slice none 0 0, .int .u8 0, .int .u8 0, .slice none 0 0, .string ⟨#[]⟩, .string ⟨#[]⟩, .bool false, .int .i64 0, .slice none 0 0, .int .u8 0, .int .u8 0, .slice none 0 0, .string ⟨#[]⟩, .string ⟨#[]⟩, .bool false, .int .i64 0, .slice none 0 0, .int .u8 0, .int .u8 0, .slice none 0 0, .string ⟨#[]⟩, .string ⟨#[]⟩, .bool false, .int .i64 0, .slice none 0 0, .int .u8 0, .int .u8 0, .slice none 0 0, .string ⟨#[]⟩, .string ⟨#[]⟩, .bool false, .int .i64 0, .slice none 0 0, .int .u8 0, .int .u8 0, .slice none 0 0, .string ⟨#[]⟩, .string ⟨#[]⟩, .bool false] 59)).setCells (w.heap.size + 1) 0 (kBad w.heap.size).toList
def gW (w : World) : World := ((w.alloc (.cells #[.int .u8 226] 5)).alloc (.cells #[.int .i64 0, .slice none 0 0, .int .u8 0, .int .u8 0, .slice none 0 0, .string ⟨#[]⟩, .string ⟨#[]⟩, .bool false, .int .i64 0, .slice none 0 0, .int .u8 0, .int .u8 0, .slice none 0 0, .string ⟨#[]⟩, .string ⟨#[]⟩, .bool false, .int .i64 0, .slice none 0 0, .int .u8 0, .int .u8 0, .slice none 0 0, .string ⟨#[]⟩, .string ⟨#[]⟩, .bool false, .int .i64 0, .slice none 0 0, .int .u8 0, .int .u8 0, .slice none 0 0, .string ⟨#[]⟩, .string ⟨#[]⟩, .bool false, .int .i64 0, .slice none 0 0, .int .u8 0, .int .u8 0, .slice none 0 0, .string ⟨#[]⟩, .string ⟨#[]⟩, .bool false, .int .i64 0, .slice none 0 0, .int .u8 0, .int .u8 0, .slice none 0 0, .string ⟨#[]⟩, .string ⟨#[]⟩, .bool false] 60)).setCells (w.heap.size + 1) 0 (kGood w.heap.size).toList
theorem rd_one_marked (w : World) (v : Value) (t : TypeId) (fr : Nat × Nat) : Rd (w.alloc (.cells #[v] t fr)) (some ⟨w.heap.size, 0, none⟩) [v] := fun j u hu => by
  have hj : j = 0 := by have := (List.getElem?_eq_some_iff.1 hu).1; simp at this; exact this
  subst hj
  refine ⟨_, rfl, by simp, ?_⟩
  rw [show (⟨w.heap.size, 0, none⟩ : Addr).add 0 = ⟨w.heap.size, 0, none⟩ from rfl, Joins.cell_of_block (heap_alloc_new w _)]
  simpa using hu
theorem arr_ok (w : World) (v : Value) (fr : Nat × Nat) (zs : Array Value) (t : TypeId) (cs : List Value) (h : cs.length ≤ zs.size) :
    (((w.alloc (.cells #[v] 5 fr)).alloc (.cells zs t)).setCells (w.heap.size + 1) 0 cs).rangeAt (w.heap.size + 1) 0 cs ∧ Rd (((w.alloc (.cells #[v] 5 fr)).alloc (.cells zs t)).setCells (w.heap.size + 1) 0 cs) (some ⟨w.heap.size, 0, none⟩) [v] ∧ Below w.heap.size w (((w.alloc (.cells #[v] 5 fr)).alloc (.cells zs t)).setCells (w.heap.size + 1) 0 cs) := by
  have hb1 := below_box w (.cells #[v] 5 fr)
  have hs1 : (w.alloc (.cells #[v] 5 fr)).heap.size = w.heap.size + 1 := World.size_alloc ..
  have hb2 : Below (w.heap.size + 1) (w.alloc (.cells #[v] 5 fr)) (((w.alloc (.cells #[v] 5 fr)).alloc (.cells zs t)).setCells (w.heap.size + 1) 0 cs) := by
    refine below_setCells (w.heap.size + 1) cs 0 _ ?_ (Nat.le_refl _)
    have := below_box (w.alloc (.cells #[v] 5 fr)) (.cells zs t)
    rwa [hs1] at this
  refine ⟨World.rangeAt_setCells_same _ _ _ _ (there_last1 w _ zs t cs.length h), ?_, hb1.trans (hb2.mono (Nat.le_succ _))⟩
  refine (rd_one_marked w v 5 fr).grown (B := w.heap.size + 1) (fun ad e => by cases e; exact Nat.lt_succ_self _) hb2
theorem bW_ok (w : World) : (bW w).rangeAt (w.heap.size + 1) 0 (kBad w.heap.size).toList ∧ Rd (bW w) (some ⟨w.heap.size, 0, none⟩) (cB [97]) ∧ Below w.heap.size w (bW w) := arr_ok w _ _ _ _ _ (by show 64 ≤ 64; exact Nat.le_refl _)
theorem gW_ok (w : World) : (gW w).rangeAt (w.heap.size + 1) 0 (kGood w.heap.size).toList ∧ Rd (gW w) (some ⟨w.heap.size, 0, none⟩) (cB [226]) ∧ Below w.heap.size w (gW w) := arr_ok w _ _ _ _ _ (by show 48 ≤ 48; exact Nat.le_refl _)
theorem sizeCells (b : Nat) : ∀ (vs : List Value) (o : Nat) (w : World), (w.setCells b o vs).heap.size = w.heap.size
  | [], _, _ => rfl
  | v :: r, o, w => by rw [World.setCells, sizeCells b r]; simp
theorem bW_sz (w : World) : w.heap.size + 1 < (bW w).heap.size := by
  unfold bW
  rw [sizeCells, World.size_alloc, World.size_alloc]
  omega
theorem gW_sz (w : World) : w.heap.size + 1 < (gW w).heap.size := by
  unfold gW
  rw [sizeCells, World.size_alloc, World.size_alloc]
  omega
theorem rd_range {w : World} {b : Nat} {cs : List Value} (h : w.rangeAt b 0 cs) (hb : b < w.heap.size) : Rd w (some ⟨b, 0, none⟩) cs := fun j u hu => ⟨_, rfl, hb, by rw [Addr.add_mid]; exact h j u hu⟩
theorem range_get {w : World} {b : Nat} {cs : Array Value} (h : w.rangeAt b 0 cs.toList) (j : Nat) (v : Value) (hv : cs[j]? = some v) : w.cell? ⟨b, j, none⟩ = some v := by
  have := h j v (by rw [Array.getElem?_toList]; exact hv)
  rwa [Nat.zero_add] at this
/-- a parse out of such an array is checked -/
theorem check_at (g : Nat) (b : UInt8) (x : PS) (A : Option Addr) (m c : Nat) (W : World) (hm : Mk W) (hf : Tf W) (hu : PUtf g b x A m c) (hg : Rd W (some ⟨g, 0, none⟩) (cB [b])) (hp : x.ps = []) (h1 : x.st ≤ 100) (h2 : -100 ≤ x.st) (h3 : x.it.size ≤ 10) (h4 : x.tx.size ≤ 10) :
    Calls Tryz.prog 9 #[.agg #[.int .i64 x.st, .slice A m c, .int .u8 (x.pr.toNat : Int), .int .u8 (x.fi.toNat : Int), .slice none 0 0, .string x.it, .string x.tx, .bool x.bad]] W fun e w' => e = .returned (.int .i64 (if mayS x = true then 0 else 160)) ∧ Below W.heap.size W w' := by
  have hrl : RL W (.slice none 0 0) x.ps := by rw [hp]; exact RL.nil W
  have hk : Kq x.ps := by rw [hp]; exact kq_nil
  rcases hu with ⟨rfl, rfl, rfl, e⟩ | ⟨rfl, rfl, rfl, e⟩
  · have hrb : RB W (.slice none 0 0) x.utf := by rw [e]; exact RB.nil W
    exact check6_any x none none 0 0 0 0 W ⟨hrb, hrl⟩ hm hf ⟨by omega, by omega⟩ (by rw [e]; show (0 : Nat) ≤ _; omega) hk (by omega) (by omega)
  · have hrb : RB W (.slice (some ⟨g, 0, none⟩) 1 1) x.utf := by rw [e]; exact ⟨_, 1, rfl, Nat.le_refl _, hg⟩
    exact check6_any x (some ⟨g, 0, none⟩) none 1 1 0 0 W ⟨hrb, hrl⟩ hm hf ⟨by omega, by omega⟩ (by rw [e]; show (1 : Nat) ≤ _; omega) hk (by omega) (by omega)

set_option maxRecDepth 100000 in
set_option maxHeartbeats 8000000 in
theorem known6_any (w : World) (hm : Mk w) (hf : Tf w) : Calls Tryz.prog 6 #[] w fun e w' => e = .returned (.bool true) ∧ Below w.heap.size w w' := by
  have HM := Lib.hid hm
  have HF := Lib.hid hf
  clear hm hf
  obtain ⟨L, hL⟩ : ∃ L, L = xs513 := ⟨_, rfl⟩
  obtain ⟨M, hM⟩ : ∃ M, M = xs512 := ⟨_, rfl⟩
  have hex : L.extract 1 513 = M := by rw [hL, hM]; rfl
  have hLs : L.size = 513 := by rw [hL]; exact xs513_size
  have hMs : M.size = 512 := by rw [hM]; exact xs512_size
  have HL := Lib.hid hL
  have HMM := Lib.hid hM
  clear hL hM
  go_enter Tryz.func6, Tryz.ntmps6
  go_wp2_with fail
  refine (Tryz.strings_Repeat ⟨#[120]⟩ 513 _ (by decide) (by decide)).mono ?_
  rintro e w1 ⟨rfl, hb1⟩
  have HB1 := Lib.hid (show Below w.heap.size w w1 from hb1)
  clear hb1
  rw [show (⟨(Lib.repeatL (⟨#[120]⟩ : ByteArray).data.toList 513).toArray⟩ : ByteArray) = L from HL.out.symm]
  have HW := Lib.hid (show ∀ W, Below w1.heap.size w1 W → Mk W ∧ Tf W from fun W hW => ⟨HM.out.keep (up HB1.out hW), HF.out.keep (up HB1.out hW)⟩)
  have T1 := Lib.hid (fun (W : World) (hW : Below w1.heap.size w1 W) => tellN ((⟨#[27, 93]⟩ : ByteArray) ++ L ++ ⟨#[7]⟩) (by rw [HL.out]; exact q1) (by rw [ByteArray.size_append, ByteArray.size_append, hLs]; decide) W (HW.out W hW).1 (HW.out W hW).2)
  have T2 := Lib.hid (fun (W : World) (hW : Below w1.heap.size w1 W) => show Calls Tryz.prog 22 #[.string ((⟨#[27, 93]⟩ : ByteArray) ++ M ++ ⟨#[7]⟩), .slice (some ⟨W.heap.size, 0, none⟩) 1 1] (W.alloc (.cells #[.int .i64 5, .int .i64 0, .int .u8 0, .int .u8 0, .slice .none 0 0, .string ⟨#[]⟩, .string M] 27)) (fun e w' => e = .returned (.bool true) ∧ Below W.heap.size W w') from
    tellT _ [⟨⟨5, 0, 0, 0, [], nos, M⟩, .none, 0, 0⟩] 1 rfl (by decide) (by rw [HMM.out]; exact q2) (by rfl) (by rw [ByteArray.size_append, ByteArray.size_append, hMs]; decide) W (HW.out W hW).1 (HW.out W hW).2 (by
      intro x hx
      simp only [List.mem_cons, List.not_mem_nil, or_false] at hx
      subst hx
      exact RL.nil _))
  have T3 := Lib.hid (fun (W : World) (hW : Below w1.heap.size w1 W) => tellN ((⟨#[27, 80, 113]⟩ : ByteArray) ++ L ++ ⟨#[27, 92]⟩) (by rw [HL.out]; exact q3) (by rw [ByteArray.size_append, ByteArray.size_append, hLs]; decide) W (HW.out W hW).1 (HW.out W hW).2)
  have T4 := Lib.hid (fun (W : World) (hW : Below w1.heap.size w1 W) => show Calls Tryz.prog 22 #[.string ⟨#[27, 93, 97, 27, 27, 92, 98]⟩, .slice (some ⟨W.heap.size, 0, none⟩) 2 2] (W.alloc (.cells #[.int .i64 3, .int .i64 0, .int .u8 0, .int .u8 92, .slice .none 0 0, .string ⟨#[]⟩, .string ⟨#[]⟩, .int .i64 1, .int .i64 98, .int .u8 0, .int .u8 0, .slice .none 0 0, .string ⟨#[]⟩, .string ⟨#[]⟩] 27)) (fun e w' => e = .returned (.bool true) ∧ Below W.heap.size W w') from
    tellT _ [⟨esE nos 92, .none, 0, 0⟩, ⟨prE 98, .none, 0, 0⟩] 2 rfl (by decide) q4 (by rfl) (by decide) W (HW.out W hW).1 (HW.out W hW).2 (by
      intro x hx
      simp only [List.mem_cons, List.not_mem_nil, or_false] at hx
      rcases hx with rfl | rfl
      · exact RL.nil _
      · exact RL.nil _))
  have T5 := Lib.hid (fun (W : World) (A : Option Addr) (n c : Nat) (hr : RL W (.slice A n c) [[0]]) (hW : Below w1.heap.size w1 W) => show Calls Tryz.prog 22 #[.string ⟨#[27, 80, 48, 10, 113, 7, 27, 92]⟩, .slice (some ⟨W.heap.size, 0, none⟩) 1 1] (W.alloc (.cells #[.int .i64 6, .int .i64 0, .int .u8 0, .int .u8 113, .slice A n c, .string ⟨#[]⟩, .string ⟨#[]⟩] 27)) (fun e w' => e = .returned (.bool true) ∧ Below W.heap.size W w') from
    tellT _ [⟨⟨6, 0, 0, 113, [[0]], nos, nos⟩, A, n, c⟩] 1 rfl (by decide) q5 (by rfl) (by decide) W (HW.out W hW).1 (HW.out W hW).2 (by
      intro x hx
      simp only [List.mem_cons, List.not_mem_nil, or_false] at hx
      subst hx
      exact hr))
  have HPA := Lib.hid (fun (W : World) (z : Int) => lparams_any (some ⟨W.heap.size, 0, none⟩) 1 1 [z] _ rfl (show Rd (W.alloc (.cells #[.int .i64 z] 3)) (some ⟨W.heap.size, 0, none⟩) (cI [z]) from Rd.one W (.int .i64 z) 3) (by decide))
  have hl1 : ¬ 9223372036854775807 < L.size + 1 := by omega
  have D := (Below.refl w1.heap.size w1).drew
  go_upto_region 2 with fail
  go_cut [2] from 15 to 48 (fun v wx => v = .bool true ∧ Below w1.heap.size w1 wx)
  case first =>
    go_region_held3 (fun _ => True) (trivial)
      (first
        | (go_at_call 23; refine (losc_any _ _).mono ?_; rintro e w' ⟨rfl, hb'⟩; have D := up D hb'; clear hb')
        | (go_at_call 24; refine (lesc_any _ _ _).mono ?_; rintro e w' ⟨rfl, hb'⟩; have D := up D hb'; clear hb')
        | (go_at_call 25; refine (lprint_any _ _).mono ?_; rintro e w' ⟨rfl, hb'⟩; have D := up D hb'; clear hb')
        | (go_at_call 26; refine (HPA.out _ _).mono ?_; rintro e w' ⟨v', rfl, ⟨hr', -, -⟩, hb'⟩; obtain ⟨A5, d5, hv5⟩ := hr'.form; subst hv5; have HR5 := Lib.hid (show RL w' (.slice A5 1 d5) [[0]] from hr'); have D := up (up D (below_box _ _)) hb'; clear hb' hr')
        | (go_at_call 22; (first | (with_reducible refine (T1.out _ D).mono ?_) | (with_reducible refine (T2.out _ D).mono ?_) | (with_reducible refine (T3.out _ D).mono ?_) | (with_reducible refine (T4.out _ D).mono ?_) | (with_reducible refine (T5.out _ _ _ _ HR5.out D).mono ?_)); rintro e w' ⟨rfl, hb'⟩; have D := up D hb'; clear hb'))
    all_goals
      go_wp2_with fail
      go_meet
      case rel => exact ⟨rfl, D⟩
  case rest =>
    obtain ⟨rfl, hb2⟩ := hcut
    have HWC := Lib.hid (show ∀ W, Below wc.heap.size wc W → Mk W ∧ Tf W from fun W hW => HW.out W (up hb2 hW))
    have HB2 := Lib.hid (up HB1.out hb2)
    clear hb2 T1 T2 T3 T4 T5 D HW hl1 hex hLs hMs
    have HC1 := Lib.hid (fun (W : World) (f z : Int) => lcsi_any f (some ⟨W.heap.size, 0, none⟩) 1 1 [z] _ rfl (show Rd (W.alloc (.cells #[.int .i64 z] 3)) (some ⟨W.heap.size, 0, none⟩) (cI [z]) from Rd.one W (.int .i64 z) 3) (by decide))
    have T6 := Lib.hid (fun (W : World) (A : Option Addr) (n c : Nat) (hr : RL W (.slice A n c) [[1]]) (hW : Below wc.heap.size wc W) => show Calls Tryz.prog 22 #[.string ⟨#[127, 97, 27, 91, 49, 127, 109]⟩, .slice (some ⟨W.heap.size, 0, none⟩) 2 2] (W.alloc (.cells #[.int .i64 1, .int .i64 97, .int .u8 0, .int .u8 0, .slice .none 0 0, .string ⟨#[]⟩, .string ⟨#[]⟩, .int .i64 4, .int .i64 0, .int .u8 0, .int .u8 109, .slice A n c, .string ⟨#[]⟩, .string ⟨#[]⟩] 27)) (fun e w' => e = .returned (.bool true) ∧ Below W.heap.size W w') from
      tellT _ [⟨prE 97, .none, 0, 0⟩, ⟨⟨4, 0, 0, 109, [[1]], nos, nos⟩, A, n, c⟩] 2 rfl (by decide) q6 (by rfl) (by decide) W (HWC.out W hW).1 (HWC.out W hW).2 (by
        intro x hx
        simp only [List.mem_cons, List.not_mem_nil, or_false] at hx
        rcases hx with rfl | rfl
        · exact RL.nil _
        · exact hr))
    have T7 := Lib.hid (fun (W : World) (S : ByteArray) (h : tellB S [prE 233] = true) (hs : S.size ≤ 1000000) (hW : Below wc.heap.size wc W) => show Calls Tryz.prog 22 #[.string S, .slice (some ⟨W.heap.size, 0, none⟩) 1 1] (W.alloc (.cells #[.int .i64 1, .int .i64 233, .int .u8 0, .int .u8 0, .slice .none 0 0, .string ⟨#[]⟩, .string ⟨#[]⟩] 27)) (fun e w' => e = .returned (.bool true) ∧ Below W.heap.size W w') from
      tellT _ [⟨prE 233, .none, 0, 0⟩] 1 rfl (by decide) h (by rfl) hs W (HWC.out W hW).1 (HWC.out W hW).2 (by
        intro x hx
        simp only [List.mem_cons, List.not_mem_nil, or_false] at hx
        subst hx
        exact RL.nil _))
    have T9 := Lib.hid (fun (W : World) (hW : Below wc.heap.size wc W) => show Calls Tryz.prog 22 #[.string ⟨#[27, 91, 49, 58, 50, 59, 109]⟩, .slice (some ⟨W.heap.size + 1 + 1 + 1, 0, none⟩) 1 1] ((((W.alloc (.cells #[.int .i64 1, .int .i64 2] 3)).alloc (.cells #[.int .i64 (-1)] 3)).alloc (.cells #[.slice (some ⟨W.heap.size, 0, none⟩) 2 2, .slice (some ⟨W.heap.size + 1, 0, none⟩) 1 1] 58)).alloc (.cells #[.int .i64 4, .int .i64 0, .int .u8 0, .int .u8 109, .slice (some ⟨W.heap.size + 1 + 1, 0, none⟩) 2 2, .string ⟨#[]⟩, .string ⟨#[]⟩] 27)) (fun e w' => e = .returned (.bool true) ∧ Below W.heap.size W w') from by
      have h3 : (((W.alloc (.cells #[.int .i64 1, .int .i64 2] 3)).alloc (.cells #[.int .i64 (-1)] 3)).alloc (.cells #[.slice (some ⟨W.heap.size, 0, none⟩) 2 2, .slice (some ⟨W.heap.size + 1, 0, none⟩) 1 1] 58)).heap.size = W.heap.size + 1 + 1 + 1 := by rw [World.size_alloc, World.size_alloc, World.size_alloc]
      have h2 : ((W.alloc (.cells #[.int .i64 1, .int .i64 2] 3)).alloc (.cells #[.int .i64 (-1)] 3)).heap.size = W.heap.size + 1 + 1 := by rw [World.size_alloc, World.size_alloc]
      have h1 : (W.alloc (.cells #[.int .i64 1, .int .i64 2] 3)).heap.size = W.heap.size + 1 := by rw [World.size_alloc]
      have hb : Below W.heap.size W (((W.alloc (.cells #[.int .i64 1, .int .i64 2] 3)).alloc (.cells #[.int .i64 (-1)] 3)).alloc (.cells #[.slice (some ⟨W.heap.size, 0, none⟩) 2 2, .slice (some ⟨W.heap.size + 1, 0, none⟩) 1 1] 58)) := up (up (below_box _ _) (below_box _ _)) (below_box _ _)
      have r1 := (RI.lit W [1, 2] 2 rfl (by decide) 3).keep (below_box _ (.cells #[.int .i64 (-1)] 3))
      have r2 := RI.lit (W.alloc (.cells #[.int .i64 1, .int .i64 2] 3)) [-1] 1 rfl (by decide) 3
      rw [h1] at r2
      have rl := RL.lit ((W.alloc (.cells #[.int .i64 1, .int .i64 2] 3)).alloc (.cells #[.int .i64 (-1)] 3)) [.slice (some ⟨W.heap.size, 0, none⟩) 2 2, .slice (some ⟨W.heap.size + 1, 0, none⟩) 1 1] [[1, 2], [-1]] 2 rfl rfl (by decide) 58 (fun j x p hx hp => by
        match j, hx, hp with
        | 0, hx, hp => cases hx; cases hp; exact r1
        | 1, hx, hp => cases hx; cases hp; exact r2
        | j + 2, hx, hp => cases hx)
      rw [h2] at rl
      have h := tellT ⟨#[27, 91, 49, 58, 50, 59, 109]⟩ [⟨⟨4, 0, 0, 109, [[1, 2], [-1]], nos, nos⟩, some ⟨W.heap.size + 1 + 1, 0, none⟩, 2, 2⟩] 1 rfl (by decide) q9 (by rfl) (by decide) (((W.alloc (.cells #[.int .i64 1, .int .i64 2] 3)).alloc (.cells #[.int .i64 (-1)] 3)).alloc (.cells #[.slice (some ⟨W.heap.size, 0, none⟩) 2 2, .slice (some ⟨W.heap.size + 1, 0, none⟩) 1 1] 58)) (HWC.out _ (up hW hb)).1 (HWC.out _ (up hW hb)).2 (by
        intro x hx
        simp only [List.mem_cons, List.not_mem_nil, or_false] at hx
        subst hx
        exact rl)
      rw [h3] at h
      exact h.mono fun e w' ⟨he, hb'⟩ => ⟨he, hb.trans (hb'.mono (by omega))⟩)
    have D := Below.refl wc.heap.size wc
    go_upto_region 4 with (first
      | (go_at_call 25; refine (lprint_any _ _).mono ?_; rintro e w' ⟨rfl, hb'⟩; have D := up D hb'; clear hb')
      | (go_at_call 27; refine (HC1.out _ _ _).mono ?_; rintro e w' ⟨A5, n5, d5, rfl, hr', hb'⟩; have HR5 := Lib.hid (show RL w' (.slice A5 n5 d5) [[1]] from hr'); have D := up (up D (below_box _ _)) hb'; clear hb' hr')
      | (go_at_call 22; (first | (with_reducible refine (T6.out _ _ _ _ HR5.out D).mono ?_) | (with_reducible refine (T7.out _ _ q7 (by decide) D).mono ?_) | (with_reducible refine (T7.out _ _ q8 (by decide) D).mono ?_) | (with_reducible refine (T9.out _ D).mono ?_)); rintro e w' ⟨rfl, hb'⟩; have D := up D hb'; clear hb'))
    clear T6 T7 T9 HC1 HPA
    have T10 := Lib.hid (fun (W : World) (S : ByteArray) (h : tellB S [] = true) (hs : S.size ≤ 1000000) (hW : Below wc.heap.size wc W) => tellN S h hs W (HWC.out W hW).1 (HWC.out W hW).2)
    have T11 := Lib.hid (fun (W : World) (hW : Below wc.heap.size wc W) => show Calls Tryz.prog 22 #[.string ⟨#[27, 91, 33, 112, 27, 91, 32, 33, 112]⟩, .slice (some ⟨W.heap.size, 0, none⟩) 2 2] (W.alloc (.cells #[.int .i64 4, .int .i64 0, .int .u8 0, .int .u8 112, .slice .none 0 0, .string ⟨#[33]⟩, .string ⟨#[]⟩, .int .i64 4, .int .i64 0, .int .u8 0, .int .u8 112, .slice .none 0 0, .string ⟨#[32, 33]⟩, .string ⟨#[]⟩] 27)) (fun e w' => e = .returned (.bool true) ∧ Below W.heap.size W w') from
      tellT _ [⟨⟨4, 0, 0, 112, [], ⟨#[33]⟩, nos⟩, .none, 0, 0⟩, ⟨⟨4, 0, 0, 112, [], ⟨#[32, 33]⟩, nos⟩, .none, 0, 0⟩] 2 rfl (by decide) q11 (by rfl) (by decide) W (HWC.out W hW).1 (HWC.out W hW).2 (by
        intro x hx
        simp only [List.mem_cons, List.not_mem_nil, or_false] at hx
        rcases hx with rfl | rfl
        · exact RL.nil _
        · exact RL.nil _))
    go_upto_region 5 with (go_at_call 22; (first | (with_reducible refine (T10.out _ _ q10 (by decide) D).mono ?_) | (with_reducible refine (T11.out _ D).mono ?_) | (with_reducible refine (T10.out _ _ q12 (by decide) D).mono ?_) | (with_reducible refine (T10.out _ _ q13 (by decide) D).mono ?_)); rintro e w' ⟨rfl, hb'⟩; have D := up D hb'; clear hb')
    clear T10 T11
    obtain ⟨i0, hi0, hz0, hz1, hz2⟩ := info_parts infoU8
    obtain ⟨w3, hw3⟩ : ∃ w3, w3 = w' := ⟨_, rfl⟩
    subst hw3
    obtain ⟨w4, hmk, -, hg4⟩ := run_makeSlice_full (P := Tryz.prog) (w := w3) w3.heap.size 22 5 i0 _ 1 Tryz.underlying22 hi0 hz0 hz1 .i64 .i64 4097 (by decide) (by rw [hz2]; decide) (by decide) (Nat.le_refl _)
    have hmk1 : (Instr.makeSlice 22 (.int .i64 4097) (.int .i64 4097)).run Tryz.prog w3 = .ok (.slice (some ⟨w3.heap.size, 0, none⟩) 4097 4097) w4 := hmk
    have hb4 : Below w3.heap.size w3 w4 := (Below.refl _ _).grown hg4 (Nat.le_refl _) (fun g hg => by cases hg)
    have D4 := up D hb4
    have HFB := Lib.hid (feed_big (some ⟨w3.heap.size, 0, none⟩) 4097 4097 w4 (HWC.out _ D4).1 (HWC.out _ D4).2 (by decide) (by decide))
    clear hmk hg4
    go_upto_region 6 with (go_at_call 19; refine HFB.out.mono ?_; rintro e w5 ⟨rfl, hb5⟩; have D5 := up D4 hb5; clear hb5)
    have hb6 := below_box w5 (.cells #[.int .i64 0, .slice none 0 0, .int .u8 0, .int .u8 0, .slice none 0 0, .string ⟨#[]⟩, .string ⟨#[]⟩, .bool false] 25)
    have D6 := up D5 hb6
    clear hb6 hmk1 hb4 D4 D5 D
    generalize w5.alloc (.cells #[.int .i64 0, .slice none 0 0, .int .u8 0, .int .u8 0, .slice none 0 0, .string ⟨#[]⟩, .string ⟨#[]⟩, .bool false] 25) = w6 at D6 ⊢
    have HSB := Lib.hid (step_bad w6 (HWC.out _ D6).1 (HWC.out _ D6).2)
    go_upto_region 7 with (go_at_call 16; refine HSB.out.mono ?_; rintro e w7 ⟨Au, cu, Aq, cq, Av, cv, rfl, hrs, hb7⟩; have HRS := Lib.hid hrs; have HB7 := Lib.hid hb7; clear hrs hb7)
    have hx8 := Box.new w7 #[.int .i64 0, .slice Au 0 cu, .int .u8 0, .int .u8 0, .slice Aq 0 cq, .string ⟨#[]⟩, .string ⟨#[]⟩, .bool false] 25
    have hb8 := below_box w7 (.cells #[.int .i64 0, .slice Au 0 cu, .int .u8 0, .int .u8 0, .slice Aq 0 cq, .string ⟨#[]⟩, .string ⟨#[]⟩, .bool false] 25)
    have HX8 := Lib.hid hx8
    have HR8 := Lib.hid (HRS.out.keep hb8)
    have D8 := up (up D6 HB7.out) hb8
    clear hx8 hb8 D6
    generalize w7.alloc (.cells #[.int .i64 0, .slice Au 0 cu, .int .u8 0, .int .u8 0, .slice Aq 0 cq, .string ⟨#[]⟩, .string ⟨#[]⟩, .bool false] 25) = w8 at HX8 HR8 D8 ⊢
    generalize w7.heap.size = T7 at HX8 ⊢
    have hcv := Lib.run_convert_bytes_const (P := Tryz.prog) w8 22 5 #[.int .u8 97] 1 1 Tryz.underlying22 Tryz.underlying5
    go_upto_region 8 with (first
      | ((with_reducible refine wpList_build_as rfl 59 _ rfl (kBad w8.heap.size) ?hb ?_); (case hb => kernel_rfl))
      | ((with_reducible refine wpList_store_mid rfl 59 (.tmp 10) (.tmp 113) rfl (w8.heap.size + 1) 0 (kBad w8.heap.size) rfl rfl ?ht (kBad_sz _) (kBad_one _) ?_); (case ht => exact there_last1 _ _ _ _ _ (by show 64 ≤ 64; exact Nat.le_refl _))))
    change Code.wp _ _ _ _ (bW w8)
    obtain ⟨hbr, hbu, hbb⟩ := bW_ok w8
    have hbz := bW_sz w8
    generalize bW w8 = w9 at hbr hbu hbb hbz ⊢
    have HX9 := Lib.hid (HX8.out.keep hbb)
    have HR9 := Lib.hid (HR8.out.keep hbb)
    have HBR := Lib.hid (rd_range hbr hbz)
    have HBU := Lib.hid hbu
    have D9 := up D8 hbb
    clear hcv HX8 HR8 D8 hbr hbu hbb hbz HSB HFB HB7 HRS
    generalize w8.heap.size = g8 at HBR HBU ⊢
    go_wp2_with fail
    go_loopw [11] (fun i wr => ∃ k : Nat, k ≤ 8 ∧ i = .int .i64 k ∧ Hid (Below w9.heap.size w9 wr)) (fun i _ => 8 - (intOf i).toNat)
    case atStart => exact ⟨0, by omega, rfl, Below.refl _ _⟩
    case round =>
      obtain ⟨k, hk, rfl, hid⟩ := hrel
      by_cases hlt : k < 8
      · obtain ⟨x, A, m, c, hp, hmay, hps, hpu, h1, h2, h3, h4⟩ := bad_at g8 k hlt
        have hbr : Below wc.heap.size wc wr := up D9 hid.out
        have HCK := Lib.hid (check_at g8 97 x A m c wr (HWC.out _ hbr).1 (HWC.out _ hbr).2 hpu (HBU.out.below hid.out) hps h1 h2 h3 h4)
        rw [if_neg (by rw [hmay]; decide)] at HCK
        have HID := Lib.hid hid.out
        have hrd : ∀ j v, (kBad g8)[j]? = some v → wr.cell? ⟨g8 + 1, j, none⟩ = some v := fun j v hv => by
          obtain ⟨ad, hA, _, hc⟩ := (HBR.out.below hid.out) j v (by rw [Array.getElem?_toList]; exact hv)
          injection hA with hA
          subst hA
          rw [Addr.add_mid, Nat.zero_add] at hc
          exact hc
        obtain ⟨p0, p1, p2, p3, p4, p5, p6, p7⟩ := hp
        have c0 := hrd _ _ p0
        have c1 := hrd _ _ p1
        have c2 := hrd _ _ p2
        have c3 := hrd _ _ p3
        have c4 := hrd _ _ p4
        have c5 := hrd _ _ p5
        have c6 := hrd _ _ p6
        have c7 := hrd _ _ p7
        clear hbr hid hrd p0 p1 p2 p3 p4 p5 p6 p7 hmay hps hpu h1 h2 h3 h4
        obtain ⟨st, utf, pr, fi, ps, it, tx, bd⟩ := x
        dsimp only at c0 c1 c2 c3 c4 c5 c6 c7 HCK
        go_wp2_with (go_at_call 9; refine HCK.out.mono ?_; rintro e w10 ⟨rfl, hb10⟩; have HB10 := Lib.hid (up HID.out hb10); clear hb10)
        exact ⟨⟨k + 1, by omega, by go_num, HB10.out⟩, by simp [intOf]; omega⟩
      · have hke : k = 8 := by omega
        subst hke
        have D10 := up D9 hid.out
        have HX10 := Lib.hid (HX9.out.keep hid.out)
        have HR10 := Lib.hid (HR9.out.keep hid.out)
        clear hk hlt hid HX9 HR9 D9 HBR HBU
        obtain ⟨w10, hw10⟩ : ∃ w10, w10 = wr := ⟨_, rfl⟩
        subst hw10
        go_upto_region 14 with (first
          | ((with_reducible refine wpList_build_as rfl 60 _ rfl (kGood w10.heap.size) ?hb ?_); (case hb => kernel_rfl))
          | ((with_reducible refine wpList_store_mid rfl 60 (.tmp 12) (.tmp 130) rfl (w10.heap.size + 1) 0 (kGood w10.heap.size) rfl rfl ?ht (kGood_sz _) (kGood_one _) ?_); (case ht => exact there_last1 _ _ _ _ _ (by show 48 ≤ 48; exact Nat.le_refl _))))
        change Code.wp _ _ _ _ (gW w10)
        obtain ⟨hbr, hbu, hbb⟩ := gW_ok w10
        have hbz := gW_sz w10
        generalize gW w10 = w11 at hbr hbu hbb hbz ⊢
        have HX11 := Lib.hid (HX10.out.keep hbb)
        have HR11 := Lib.hid (HR10.out.keep hbb)
        have HBR := Lib.hid (rd_range hbr hbz)
        have HBU := Lib.hid hbu
        have D11 := up D10 hbb
        clear HX10 HR10 D10 hbr hbu hbb hbz
        generalize w10.heap.size = g10 at HBR HBU ⊢
        go_wp2_with fail
        go_loopw [13] (fun i wr => ∃ k : Nat, k ≤ 6 ∧ i = .int .i64 k ∧ Hid (Below w11.heap.size w11 wr)) (fun i _ => 6 - (intOf i).toNat)
        case atStart => exact ⟨0, by omega, rfl, Below.refl _ _⟩
        case round =>
          obtain ⟨k, hk, rfl, hid⟩ := hrel
          by_cases hlt : k < 6
          · obtain ⟨x, A, m, c, hp, hmay, hps, hpu, h1, h2, h3, h4⟩ := good_at g10 k hlt
            have hbr : Below wc.heap.size wc wr := up D11 hid.out
            have HCK := Lib.hid (check_at g10 226 x A m c wr (HWC.out _ hbr).1 (HWC.out _ hbr).2 hpu (HBU.out.below hid.out) hps h1 h2 h3 h4)
            rw [if_pos hmay] at HCK
            have HID := Lib.hid hid.out
            have hrd : ∀ j v, (kGood g10)[j]? = some v → wr.cell? ⟨g10 + 1, j, none⟩ = some v := fun j v hv => by
              obtain ⟨ad, hA, _, hc⟩ := (HBR.out.below hid.out) j v (by rw [Array.getElem?_toList]; exact hv)
              injection hA with hA
              subst hA
              rw [Addr.add_mid, Nat.zero_add] at hc
              exact hc
            obtain ⟨p0, p1, p2, p3, p4, p5, p6, p7⟩ := hp
            have c0 := hrd _ _ p0
            have c1 := hrd _ _ p1
            have c2 := hrd _ _ p2
            have c3 := hrd _ _ p3
            have c4 := hrd _ _ p4
            have c5 := hrd _ _ p5
            have c6 := hrd _ _ p6
            have c7 := hrd _ _ p7
            clear hbr hid hrd p0 p1 p2 p3 p4 p5 p6 p7 hmay hps hpu h1 h2 h3 h4
            obtain ⟨st, utf, pr, fi, ps, it, tx, bd⟩ := x
            dsimp only at c0 c1 c2 c3 c4 c5 c6 c7 HCK
            go_wp2_with (go_at_call 9; refine HCK.out.mono ?_; rintro e w12 ⟨rfl, hb12⟩; have HB12 := Lib.hid (up HID.out hb12); clear hb12)
            exact ⟨⟨k + 1, by omega, by go_num, HB12.out⟩, by simp [intOf]; omega⟩
          · have hke : k = 6 := by omega
            subst hke
            have D12 := up D11 hid.out
            have HX12 := Lib.hid (HX11.out.keep hid.out)
            have HR12 := Lib.hid (HR11.out.keep hid.out)
            clear hk hlt hid HX11 HR11 D11 HBR HBU
            have HWK := Lib.hid (fun (W : World) (hW : Below wc.heap.size wc W) => works_any W (HWC.out W hW).1 (HWC.out W hW).2)
            have HSM := Lib.hid (fun (W : World) (hW : Below wr.heap.size wr W) => show Calls Tryz.prog 12 #[.agg #[.int .i64 0, .slice Au 0 cu, .int .u8 0, .int .u8 0, .slice Aq 0 cq, .string ⟨#[]⟩, .string ⟨#[]⟩, .bool false], .agg #[.int .i64 0, .slice none 0 0, .int .u8 0, .int .u8 0, .slice none 0 0, .string ⟨#[]⟩, .string ⟨#[]⟩, .bool false]] W (fun e w' => e = .returned (.bool true) ∧ Below W.heap.size W w') from by
              have h := rsame6_any (begS 0) (begS 0) Au none Aq none 0 0 cu 0 0 0 cq 0 W (HR12.out.keep hW) (RS.nil _ _ rfl rfl) kq_nil kq_nil
              rw [(eqS_iff _ _).2 rfl] at h
              exact h)
            have hx := HX12.out
            have x0 := hx.cell 0 _ rfl
            have x1 := hx.cell 1 _ rfl
            have x2 := hx.cell 2 _ rfl
            have x3 := hx.cell 3 _ rfl
            have x4 := hx.cell 4 _ rfl
            have x5 := hx.cell 5 _ rfl
            have x6 := hx.cell 6 _ rfl
            have x7 := hx.cell 7 _ rfl
            clear hx
            have D := Below.refl wr.heap.size wr
            go_wp2_with (first
              | (go_at_call 15; refine (HWK.out _ (up D12 D)).mono ?_; rintro e w' ⟨rfl, hb'⟩; have D := up D hb'; clear hb' x0 x1 x2 x3 x4 x5 x6 x7; have hx := HX12.out.keep D; have x0 := hx.cell 0 _ rfl; have x1 := hx.cell 1 _ rfl; have x2 := hx.cell 2 _ rfl; have x3 := hx.cell 3 _ rfl; have x4 := hx.cell 4 _ rfl; have x5 := hx.cell 5 _ rfl; have x6 := hx.cell 6 _ rfl; have x7 := hx.cell 7 _ rfl; clear hx)
              | (go_at_call 12; refine (HSM.out _ D).mono ?_; rintro e w' ⟨rfl, hb'⟩; have D := up D hb'; clear hb'))
            go_ret
            exact ⟨rfl, up HB2.out (up D12 D)⟩
end Go.Proofs.YtefkbdmgplfgoaaGreatDoor.Sta
