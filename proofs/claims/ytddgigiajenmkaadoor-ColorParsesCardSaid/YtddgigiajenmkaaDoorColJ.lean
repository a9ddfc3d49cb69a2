/-
  Contract of the reference's Parse of layer 3.
-/
import Derived.Test.YtddgigiajenmkaaDoorColH
namespace Go.Proofs.YtddgigiajenmkaaDoor.Col
open Go.RowKit Utf

def shapeL : List UInt8 := [114, 103, 98, 58, 48, 48, 47, 48, 48, 47, 48, 48]
def shapeS : ByteArray := ⟨#[114, 103, 98, 58, 48, 48, 47, 48, 48, 47, 48, 48]⟩
theorem shape_run (i : Nat) (f : UInt8) (hf : shapeL[i]? = some f) (w : World) : (Instr.index 9 (.string ⟨#[114, 103, 98, 58, 48, 48, 47, 48, 48, 47, 48, 48]⟩) (.int .i64 (i : Int))).run Tryd.prog w = .ok (.int .u8 (f.toNat : Int)) w :=
  idx_run 9 shapeS i f hf Tryd.underlying9 w
theorem shape_at (i : Nat) (f : UInt8) (hf : formL[i]? = some f) : shapeL[i]? = some (if f = 104 then 48 else f) ∧ f ≠ 48 := by
  have : ∀ i : Fin 12, ∃ f, formL[i.val]? = some f ∧ shapeL[i.val]? = some (if f = 104 then 48 else f) ∧ f ≠ 48 := fun i => ⟨(formL[i.val]?).getD 0, by revert i; decide +kernel⟩
  have hi : i < 12 := (List.getElem?_eq_some_iff.1 hf).1
  obtain ⟨g, h1, h2⟩ := this ⟨i, hi⟩
  rw [hf] at h1
  cases h1
  exact h2

set_option maxRecDepth 100000 in
set_option maxHeartbeats 4000000 in
theorem rparse_any (s : ByteArray) (w : World) : Calls Tryd.prog 21 #[.string s] w fun e w' => e = .returned (prsV s.data.toList) ∧ Below w.heap.size w w' := by
  have hlen : s.data.toList.length = s.size := by simp
  by_cases h12 : s.size = 12
  · have hp := Lib.hid (show parseL s.data.toList = prs (formL.drop 0) (s.data.toList.drop 0) 0 by rw [parseL, if_pos (by omega)]; rfl)
    have hsz : (s.size : Int) = 12 := by omega
    have HI := Lib.hid (And.intro (show Bx (w.alloc (.cells #[.int .i64 0, .int .i64 0] 23)) w.heap.size from heap_alloc_new w _) (below_box w (.cells #[.int .i64 0, .int .i64 0] 23)))
    go_enter Tryd.func21, Tryd.ntmps21
    go_wp2_with fail
    go_loopw [4, 5] (fun a i wr => ∃ k n : Nat, k ≤ 12 ∧ n < 16 ^ k ∧ i = .int .i64 (k : Int) ∧ a = .int .i64 (n : Int) ∧ Hid (parseL s.data.toList = prs (formL.drop k) (s.data.toList.drop k) n) ∧ Hid (Bx wr w.heap.size ∧ Below w.heap.size w wr)) (fun _ i _ => 12 - (intOf i).toNat)
    case atStart => exact ⟨0, 0, by omega, by omega, rfl, rfl, hp, HI⟩
    case round =>
      clear HI hp
      obtain ⟨k, n, hk, hn, rfl, rfl, hp, hid⟩ := hrel
      have hbx := hid.out.1
      have hlt := (Array.getElem?_eq_some_iff.1 hbx).1
      have c0 : wr.cell? ⟨w.heap.size, 0, none⟩ = some (.int .i64 0) := by simp [World.cell?, show wr.heap[w.heap.size]? = _ from hbx]
      have c1 : wr.cell? ⟨w.heap.size, 1, none⟩ = some (.int .i64 0) := by simp [World.cell?, show wr.heap[w.heap.size]? = _ from hbx]
      have f0 : wr.frozen? ⟨w.heap.size, 0, none⟩ = false := by simp [World.frozen?, show wr.heap[w.heap.size]? = _ from hbx]
      have f1 : wr.frozen? ⟨w.heap.size, 1, none⟩ = false := by simp [World.frozen?, show wr.heap[w.heap.size]? = _ from hbx]
      clear hbx
      have hn2 : n < 281474976710656 := Nat.lt_of_lt_of_le hn (Nat.pow_le_pow_right (n := 16) (by omega) hk)
      by_cases hk2 : k < 12
      · obtain ⟨f, hf⟩ : ∃ f, formL[k]? = some f := ⟨formL[k]'hk2, List.getElem?_eq_getElem hk2⟩
        obtain ⟨c, hc⟩ : ∃ c, s.data.toList[k]? = some c := ⟨s.data.toList[k]'(by omega), List.getElem?_eq_getElem (by omega)⟩
        obtain ⟨hsf, hf48⟩ := shape_at k f hf
        have x2 := fun w => idx_run 9 s k c hc Tryd.underlying9 w
        by_cases hh : f = 104
        · subst hh
          have hs1 := prs_h k s.data.toList c n hf hc
          rw [if_pos rfl] at hsf
          have x1' : ∀ w, (Instr.index 9 (.string ⟨#[114, 103, 98, 58, 48, 48, 47, 48, 48, 47, 48, 48]⟩) (.int .i64 (k : Int))).run Tryd.prog w = .ok (.int .u8 48) w := fun w => shape_run k 48 hsf w
          clear hsf
          cases hd : dig c with
          | none =>
            rw [hd] at hs1
            have hp2 := Lib.hid (prsV_none _ (hp.out.trans hs1))
            have hv := rdig_none c hd
            clear hs1 hp hf hc hd
            go_wp2_with fail
            refine (rdigit_any c _).mono ?_
            rw [← hv]
            rintro e w' ⟨rfl, rfl⟩
            clear hv
            go_wp2
            refine bodyPost_ret (ret_cell rfl _ _ ⟨w.heap.size, 0, none⟩ _ rfl (load_col _ _ (.int .i64 0) (.int .i64 0) (by go_simp) (by go_simp))) rfl ?_
            exact ⟨congrArg _ hp2.out, (hid.out.2.setCell (p := ⟨w.heap.size, 0, none⟩) (Nat.le_refl _) _).setCell (p := ⟨w.heap.size, 1, none⟩) (Nat.le_refl _) _⟩
          | some d =>
            have hd16 := dig_bd c d hd
            rw [hd] at hs1
            have hp2 := Lib.hid (hp.out.trans hs1)
            have hv := rdig_some c d d hd rfl
            have hn3 : n * 16 + d < 16 ^ (k + 1) := by rw [Nat.pow_succ]; omega
            clear hs1 hp hf hc hd
            go_wp2_with fail
            refine (rdigit_any c _).mono ?_
            rw [← hv]
            rintro e w' ⟨rfl, rfl⟩
            clear hv
            go_wp2
            go_roundw
            case rel => exact ⟨k + 1, n * 16 + d, by omega, hn3, by go_num, by go_num, hp2, hid⟩
            case measure => simp [intOf]; omega
        · have hs1 := prs_f k s.data.toList f c n hf hh hc
          rw [if_neg hh] at hsf
          have x1 := fun w => shape_run k f hsf w
          have n1' : ((f.toNat : Int) != 48) = true := u8_ne f 48 hf48
          clear hsf
          by_cases hcf : c = f
          · subst hcf
            rw [if_pos rfl] at hs1
            have hp2 := Lib.hid (hp.out.trans hs1)
            clear hs1 hp hf hc hh
            go_wp2_with fail
            go_quiet (fail)
            go_wp2
            go_roundw
            case rel => exact ⟨k + 1, n, by omega, Nat.lt_of_lt_of_le hn (Nat.pow_le_pow_right (by omega) (by omega)), by go_num, rfl, hp2, ⟨hid.out.1, below_drewN' hid.out.2 _⟩⟩
            case measure => simp [intOf]; omega
          · rw [if_neg hcf] at hs1
            have hp2 := Lib.hid (prsV_none _ (hp.out.trans hs1))
            have n2 := u8_ne c f hcf
            clear hs1 hp hf hc hh hcf
            go_wp2_with fail
            go_quiet (fail)
            go_wp2
            refine bodyPost_ret (ret_cell rfl _ _ ⟨w.heap.size, 0, none⟩ _ rfl (load_col _ _ (.int .i64 0) (.int .i64 0) (by go_simp) (by go_simp))) rfl ?_
            exact ⟨congrArg _ hp2.out, ((below_drewN' hid.out.2 _).setCell (p := ⟨w.heap.size, 0, none⟩) (Nat.le_refl _) _).setCell (p := ⟨w.heap.size, 1, none⟩) (Nat.le_refl _) _⟩
      · obtain rfl : k = 12 := by omega
        have hp2 := Lib.hid (prsV_some _ n (by rw [hp.out, List.drop_of_length_le (by decide)]; cases (s.data.toList.drop 12) <;> rfl))
        clear hp
        go_wp2
        refine bodyPost_ret (ret_cell rfl _ _ ⟨w.heap.size, 0, none⟩ _ rfl (load_col _ _ (.int .i64 2) (.int .i64 (n : Int)) (by go_simp) (by go_simp))) rfl ?_
        exact ⟨congrArg _ hp2.out, (hid.out.2.setCell (p := ⟨w.heap.size, 0, none⟩) (Nat.le_refl _) _).setCell (p := ⟨w.heap.size, 1, none⟩) (Nat.le_refl _) _⟩
  · have hf := Lib.hid (prsV_none s.data.toList (by rw [parseL, if_neg (by omega)]))
    have hne : ((s.size : Int) != 12) = true := by
      rw [bne_iff_ne]; omega
    go_enter Tryd.func21, Tryd.ntmps21
    go_wp2
    refine bodyPost_ret (ret_cell rfl _ _ ⟨w.heap.size, 0, none⟩ _ rfl (load_col _ _ (.int .i64 0) (.int .i64 0) (by go_simp) (by go_simp))) rfl ?_
    exact ⟨congrArg _ hf.out, below_box _ _⟩
end Go.Proofs.YtddgigiajenmkaaDoor.Col
