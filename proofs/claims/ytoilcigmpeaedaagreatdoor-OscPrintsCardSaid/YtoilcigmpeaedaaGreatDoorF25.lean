/-
  ColE
-/
import Derived.Laws.ResultCell
import Derived.Test.YtoilcigmpeaedaaGreatDoorF0
import Derived.Test.YtoilcigmpeaedaaGreatDoorF16
namespace Go.Proofs.YtoilcigmpeaedaaGreatDoor.Col
open Go.RowKit Utf

/-- what Parse answers -/
def prsV (s : List UInt8) : Value := .tuple (match parseL s with | some n => #[colV 2 (n : Int), .int .i64 0] | none => #[colV 0 0, .int .i64 6])
theorem prsV_none (s : List UInt8) (h : parseL s = none) : Value.tuple #[.agg #[.int .i64 0, .int .i64 0], .int .i64 6] = prsV s := by rw [prsV, h]; rfl
theorem prsV_some (s : List UInt8) (n : Nat) (h : parseL s = some n) : Value.tuple #[.agg #[.int .i64 2, .int .i64 (n : Int)], .int .i64 0] = prsV s := by rw [prsV, h]; rfl
/-- one step of the reading -/
theorem prs_h (i : Nat) (s : List UInt8) (c : UInt8) (a : Nat) (hf : formL[i]? = some 104) (hc : s[i]? = some c) : prs (formL.drop i) (s.drop i) a = (match dig c with | none => none | some d => prs (formL.drop (i + 1)) (s.drop (i + 1)) (a * 16 + d)) := by
  have h1 : i < formL.length := (List.getElem?_eq_some_iff.1 hf).1
  have h2 : i < s.length := (List.getElem?_eq_some_iff.1 hc).1
  have e1 : formL[i] = 104 := (List.getElem?_eq_some_iff.1 hf).2
  have e2 : s[i] = c := (List.getElem?_eq_some_iff.1 hc).2
  rw [List.drop_eq_getElem_cons h1, List.drop_eq_getElem_cons h2, e1, e2, prs, if_pos rfl]
  cases dig c <;> rfl
theorem prs_f (i : Nat) (s : List UInt8) (f c : UInt8) (a : Nat) (hf : formL[i]? = some f) (hn : f ≠ 104) (hc : s[i]? = some c) : prs (formL.drop i) (s.drop i) a = if c = f then prs (formL.drop (i + 1)) (s.drop (i + 1)) a else none := by
  have h1 : i < formL.length := (List.getElem?_eq_some_iff.1 hf).1
  have h2 : i < s.length := (List.getElem?_eq_some_iff.1 hc).1
  have e1 : formL[i] = f := (List.getElem?_eq_some_iff.1 hf).2
  have e2 : s[i] = c := (List.getElem?_eq_some_iff.1 hc).2
  rw [List.drop_eq_getElem_cons h1, List.drop_eq_getElem_cons h2, e1, e2, prs, if_neg hn]
theorem idx_run (t : TypeId) (s : ByteArray) (i : Nat) (c : UInt8) (hc : s.data.toList[i]? = some c) (ht : Tryz.prog.underlying t = some .string) (w : World) : (Instr.index t (.string s) (.int .i64 (i : Int))).run Tryz.prog w = .ok (.int .u8 (c.toNat : Int)) w := by
  have h2 : i < s.data.toList.length := (List.getElem?_eq_some_iff.1 hc).1
  have h3 : i < s.size := by simpa using h2
  have e : s.data.toList[i] = c := (List.getElem?_eq_some_iff.1 hc).2
  rw [run_index_string w t s .i64 i ht, dif_pos ⟨by omega, by omega⟩]
  rw [← e]
  rfl
theorem ret_cell {P : Program} {fn : Func} {p u : Tmp} {ty : TypeId} (h : fn.results = #[.cell p ty, .tmp u]) (tmps : Array Value) (w : World) (a : Addr) (v : Value) (ha : tmps.getD p undef = .pointer (some a)) (hl : (loadVar ty a).run P w = .ok v w) :
    (results fn tmps).run P w = .ok (.tuple #[v, tmps.getD u undef]) w := by
  rw [results_cell_tmp h, ha]
  simp [asAddr, hl, Result.andThen]
theorem load_col (w : World) (B : Nat) (a b : Value) (h0 : w.cell? ⟨B, 0, none⟩ = some a) (h1 : w.cell? ⟨B, 1, none⟩ = some b) : (loadVar 23 ⟨B, 0, none⟩).run Tryz.prog w = .ok (.agg #[a, b]) w := by
  go_simp
def formS : ByteArray := ⟨#[114, 103, 98, 58, 104, 104, 47, 104, 104, 47, 104, 104]⟩

theorem form_run (i : Nat) (f : UInt8) (hf : formL[i]? = some f) (w : World) : (Instr.index 9 (.string ⟨#[114, 103, 98, 58, 104, 104, 47, 104, 104, 47, 104, 104]⟩) (.int .i64 (i : Int))).run Tryz.prog w = .ok (.int .u8 (f.toNat : Int)) w :=
  idx_run 9 formS i f hf Tryz.underlying9 w
theorem u8_ne (a b : UInt8) (h : a ≠ b) : ((a.toNat : Int) != (b.toNat : Int)) = true := by
  rw [bne_iff_ne]
  intro e
  exact h (UInt8.toNat_inj.1 (by omega))
theorem u8_same (a : UInt8) : ((a.toNat : Int) != (a.toNat : Int)) = false := by simp
/-- a box with a color in it -/
def Bx (w : World) (B : Nat) : Prop := w.heap[B]? = some (.cells #[.int .i64 0, .int .i64 0] 23 (0, 0))
theorem Bx.keep {w w' : World} {B : Nat} (h : Bx w B) (hb : Below w.heap.size w w') : Bx w' B := (hb.block B (Array.getElem?_eq_some_iff.1 h).1).trans h

set_option maxRecDepth 100000 in
set_option maxHeartbeats 4000000 in
theorem parse_any (s : ByteArray) (w : World) : Calls Tryz.prog 66 #[.string s] w fun e w' => e = .returned (prsV s.data.toList) ∧ Below w.heap.size w w' := by
  have hlen : s.data.toList.length = s.size := by simp
  by_cases h12 : s.size = 12
  · have hp := Lib.hid (show parseL s.data.toList = prs (formL.drop 0) (s.data.toList.drop 0) 0 by rw [parseL, if_pos (by omega)]; rfl)
    have hsz : (s.size : Int) = 12 := by omega
    have HI := Lib.hid (And.intro (show Bx (w.alloc (.cells #[.int .i64 0, .int .i64 0] 23)) w.heap.size from heap_alloc_new w _) (below_box w (.cells #[.int .i64 0, .int .i64 0] 23)))
    go_enter Tryz.func66, Tryz.ntmps66
    go_wp2_with fail
    go_loopw [4, 12] (fun a i wr => ∃ k n : Nat, k ≤ 12 ∧ n < 16 ^ k ∧ i = .int .i64 (k : Int) ∧ a = .int .i64 (n : Int) ∧ Hid (parseL s.data.toList = prs (formL.drop k) (s.data.toList.drop k) n) ∧ Hid (Bx wr w.heap.size ∧ Below w.heap.size w wr)) (fun _ i _ => 12 - (intOf i).toNat)
    case atStart => exact ⟨0, 0, by omega, by omega, rfl, rfl, hp, HI⟩
    case round =>
      clear HI hp
      obtain ⟨k, n, hk, hn, rfl, rfl, hp, hid⟩ := hrel
      have hbx := hid.out.1
      have hlt := (Array.getElem?_eq_some_iff.1 hbx).1
      have c0 : wr.cell? ⟨w.heap.size, 0, none⟩ = some (.int .i64 0) := by simp [World.cell?, show wr.heap[w.heap.size]? = _ from hbx]
      have c1 : wr.cell? ⟨w.heap.size, 1, none⟩ = some (.int .i64 0) := by simp [World.cell?, show wr.heap[w.heap.size]? = _ from hbx]
      have f0 : wr.frozen? ⟨w.heap.size, 0, none⟩ = false := by simp [World.frozen?, show wr.heap[w.heap.size]? = _ from hbx]
      have f1 : wr.frozen? ⟨w.heap.size, 1, none⟩ = false := by simp [World.frozen?, show wr.heap[w.heap.size]? = _ from hbx]
      clear hbx
      have hn2 : n < 281474976710656 := Nat.lt_of_lt_of_le hn (Nat.pow_le_pow_right (n := 16) (by omega) hk)
      by_cases hk2 : k < 12
      · obtain ⟨f, hf⟩ : ∃ f, formL[k]? = some f := ⟨formL[k]'hk2, List.getElem?_eq_getElem hk2⟩
        obtain ⟨c, hc⟩ : ∃ c, s.data.toList[k]? = some c := ⟨s.data.toList[k]'(by omega), List.getElem?_eq_getElem (by omega)⟩
        have x1 := fun w => form_run k f hf w
        have x2 := fun w => idx_run 9 s k c hc Tryz.underlying9 w
        by_cases hh : f = 104
        · subst hh
          have hs1 := prs_h k s.data.toList c n hf hc
          have x1' : ∀ w, (Instr.index 9 (.string ⟨#[114, 103, 98, 58, 104, 104, 47, 104, 104, 47, 104, 104]⟩) (.int .i64 (k : Int))).run Tryz.prog w = .ok (.int .u8 104) w := x1
          clear x1
          cases hd : dig c with
          | none =>
            rw [hd] at hs1
            have hp2 := Lib.hid (prsV_none _ (hp.out.trans hs1))
            have hv := digV_none c hd
            clear hs1 hp hf hc hd
            go_wp2_with fail
            refine (digit_any c _).mono ?_
            rw [← hv]
            rintro e w' ⟨rfl, rfl⟩
            clear hv
            go_wp2
            refine bodyPost_ret (ret_cell rfl _ _ ⟨w.heap.size, 0, none⟩ _ rfl (load_col _ _ (.int .i64 0) (.int .i64 0) (by go_simp) (by go_simp))) rfl ?_
            exact ⟨congrArg _ hp2.out, (hid.out.2.setCell (p := ⟨w.heap.size, 0, none⟩) (Nat.le_refl _) _).setCell (p := ⟨w.heap.size, 1, none⟩) (Nat.le_refl _) _⟩
          | some d =>
            have hd16 := dig_bd c d hd
            rw [hd] at hs1
            have hp2 := Lib.hid (hp.out.trans hs1)
            have hv := digV_some c d d hd rfl
            have hn3 : n * 16 + d < 16 ^ (k + 1) := by rw [Nat.pow_succ]; omega
            clear hs1 hp hf hc hd
            go_wp2_with fail
            refine (digit_any c _).mono ?_
            rw [← hv]
            rintro e w' ⟨rfl, rfl⟩
            clear hv
            go_wp2
            go_roundw
            case rel => exact ⟨k + 1, n * 16 + d, by omega, hn3, by go_num, by go_num, hp2, hid⟩
            case measure => simp [intOf]; omega
        · have hs1 := prs_f k s.data.toList f c n hf hh hc
          have n1 := u8_ne f 104 hh
          have n1' : ((f.toNat : Int) != 104) = true := n1
          clear n1
          by_cases hcf : c = f
          · subst hcf
            rw [if_pos rfl] at hs1
            have hp2 := Lib.hid (hp.out.trans hs1)
            clear hs1 hp hf hc hh
            go_wp2_with fail
            go_quiet (fail)
            go_wp2
            go_roundw
            case rel => exact ⟨k + 1, n, by omega, Nat.lt_of_lt_of_le hn (Nat.pow_le_pow_right (by omega) (by omega)), by go_num, rfl, hp2, ⟨hid.out.1, below_drewN' hid.out.2 _⟩⟩
            case measure => simp [intOf]; omega
          · rw [if_neg hcf] at hs1
            have hp2 := Lib.hid (prsV_none _ (hp.out.trans hs1))
            have n2 := u8_ne c f hcf
            clear hs1 hp hf hc hh hcf
            go_wp2_with fail
            go_quiet (fail)
            go_wp2
            refine bodyPost_ret (ret_cell rfl _ _ ⟨w.heap.size, 0, none⟩ _ rfl (load_col _ _ (.int .i64 0) (.int .i64 0) (by go_simp) (by go_simp))) rfl ?_
            exact ⟨congrArg _ hp2.out, ((below_drewN' hid.out.2 _).setCell (p := ⟨w.heap.size, 0, none⟩) (Nat.le_refl _) _).setCell (p := ⟨w.heap.size, 1, none⟩) (Nat.le_refl _) _⟩
      · obtain rfl : k = 12 := by omega
        have hp2 := Lib.hid (prsV_some _ n (by rw [hp.out, List.drop_of_length_le (by decide)]; cases (s.data.toList.drop 12) <;> rfl))
        clear hp
        go_wp2
        refine bodyPost_ret (ret_cell rfl _ _ ⟨w.heap.size, 0, none⟩ _ rfl (load_col _ _ (.int .i64 2) (.int .i64 (n : Int)) (by go_simp) (by go_simp))) rfl ?_
        exact ⟨congrArg _ hp2.out, (hid.out.2.setCell (p := ⟨w.heap.size, 0, none⟩) (Nat.le_refl _) _).setCell (p := ⟨w.heap.size, 1, none⟩) (Nat.le_refl _) _⟩
  · have hf := Lib.hid (prsV_none s.data.toList (by rw [parseL, if_neg (by omega)]))
    have hne : ((s.size : Int) != 12) = true := by
      rw [bne_iff_ne]; omega
    go_enter Tryz.func66, Tryz.ntmps66
    go_wp2
    refine bodyPost_ret (ret_cell rfl _ _ ⟨w.heap.size, 0, none⟩ _ rfl (load_col _ _ (.int .i64 0) (.int .i64 0) (by go_simp) (by go_simp))) rfl ?_
    exact ⟨congrArg _ hf.out, below_box _ _⟩
end Go.Proofs.YtoilcigmpeaedaaGreatDoor.Col
