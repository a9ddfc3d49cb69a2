/-
  Contracts of the utf package's iterator steps, its closure, and Codes.
-/
import Derived.Test.YtoilcigmpeaedaaGreatDoorUtfI
import Derived.Test.YtoilcigmpeaedaaGreatDoorUtfF
namespace Go.Proofs.YtoilcigmpeaedaaGreatDoor.Utf
open Go.RowKit Go.Shelf

attribute [local go_sem] Oper.semAt_some

set_option maxHeartbeats 1000000 in
theorem steps_in (n : Nat) (s : ByteArray) (w : World) :
    CallsIn Fence.wide n Tryz.prog 94 #[.string s] w fun e w' => e = .returned (.func (.func 109) #[] #[.pointer (some ⟨w.heap.size, 0, none⟩)]) ∧ w' = w.alloc (.cells #[.string s] 9) := by
  refine callsIn_of_wp Tryz.func94 rfl trivial ?_ rfl
  simp only [Tryz.ntmps94, List.size_toArray, List.length_cons, List.length_nil, Nat.reduceAdd, Nat.reduceSub, Array.replicate_succ, Array.replicate_zero, List.push_toArray, List.append_toArray, List.nil_append, List.cons_append]
  gi_wp2
  go_ret
  exact ⟨rfl, rfl⟩

theorem runL_take (l : List UInt8) (k : Nat) (b : UInt8) (h : l[k]? = some b) :
    runL ([], []) (l.take (k + 1)) = ((stepL (runL ([], []) (l.take k)).1 b).1, (runL ([], []) (l.take k)).2 ++ (stepL (runL ([], []) (l.take k)).1 b).2) := by
  rw [List.take_add_one, h]; exact runL_snoc _ _ _

theorem runL_p (st : List UInt8 × List Int) (h : st.1.length ≤ 3) (l : List UInt8) : (runL st l).1.length ≤ 3 := by
  induction l generalizing st with
  | nil => exact h
  | cons x r ih => exact ih _ (stepL_len st.1 x).1

set_option maxRecDepth 100000 in
set_option maxHeartbeats 2000000 in
theorem iter_in (n n₀ l Bs : Nat) (s : ByteArray) (hs : s.size ≤ 100000) (J : List Int → World → Prop) (hJ : ∀ pre A B, J pre A → Below A.heap.size A B → J pre B)
    (hY : ∀ pre zs A c W1, J pre W1 → Rd W1 A (cI zs) → zs.length ≤ 2 → pre.length ≤ 2 * s.size → YieldAt Fence.wide (n - 1) Tryz.prog l #[.slice A zs.length c] W1 fun e W' => e = .returned (.bool true) ∧ J (pre ++ zs) W' ∧ KeepB n₀ W1 W')
    (W : World) (hm : Mk W) (hn₀ : 4 < n₀) (hB : Boxed W Bs 9 (.string s)) (h0 : J [] W) :
    CallsIn Fence.wide n Tryz.prog 109 #[.func (.yield l) #[] #[], .pointer (some ⟨Bs, 0, none⟩)] W fun e W' => (∃ v, e = .returned v) ∧ J (codesL s.data.toList) W' := by
  have HJ := Lib.hid hJ; clear hJ
  have HY := Lib.hid hY; clear hY
  have HM := Lib.hid hm; clear hm
  have hc := hB.cell
  have HB := Lib.hid hB; clear hB
  have H0 := Lib.hid h0; clear h0
  refine callsIn_of_wp Tryz.func109 rfl trivial ?_ rfl
  simp only [Tryz.ntmps109, List.size_toArray, List.length_cons, List.length_nil, Nat.reduceAdd, Nat.reduceSub, Array.replicate_succ, Array.replicate_zero, List.push_toArray, List.append_toArray, List.nil_append, List.cons_append]
  gi_wp2
  gi_loopw [3, 8] (fun r i wr => ∃ (k : Nat) (A : Option Addr) (c : Nat), k ≤ s.size ∧ i = .int .i64 k ∧ r = .slice A (runL ([], []) (s.data.toList.take k)).1.length c ∧ Hid ((runL ([], []) (s.data.toList.take k)).1.length ≤ c ∧ TyB wr A ∧ Rd wr A (cB (runL ([], []) (s.data.toList.take k)).1) ∧ J (runL ([], []) (s.data.toList.take k)).2 wr ∧ Mk wr ∧ Boxed wr Bs 9 (.string s)))
    (fun _ i _ => s.size - (intOf i).toNat)
  case atStart => exact ⟨0, none, 0, Nat.zero_le _, rfl, rfl, Nat.le_refl _, TyB.none _, Rd.nil _ _, H0.out, HM.out, HB.out⟩
  case round =>
    obtain ⟨k, A, c, hk, rfl, rfl, hid⟩ := hrel
    have hcr := hid.out.2.2.2.2.2.cell
    have hpl := runL_len ([], []) (s.data.toList.take k)
    have hpp := runL_p ([], []) (by simp) (s.data.toList.take k)
    obtain ⟨st, hst⟩ : ∃ st, runL ([], []) (s.data.toList.take k) = st := ⟨_, rfl⟩
    rw [hst] at hid hpl hpp ⊢
    have hpre : st.2.length ≤ 2 * s.size := by
      have : (s.data.toList.take k).length ≤ s.size := by rw [List.length_take]; simp; omega
      simp only [List.length_nil] at hpl
      omega
    clear hpl
    by_cases hlt : k < s.size
    · have hsk : s.data.toList[k]? = some s[k] := by
        rw [List.getElem?_eq_getElem (by simpa using hlt)]; rfl
      have Hrun := Lib.hid (runL_take s.data.toList k s[k] hsk); clear hsk
      rw [hst] at Hrun
      have Hst := Lib.hid hst; clear hst
      obtain ⟨p, pre⟩ := st
      gi_wp2_with fail
      refine ⟨trivial, fun h => (by cases h), (callsIn_wide.2 (step_any A c p s[k] _ hid.out.2.2.1 hid.out.2.2.2.2.1 hid.out.1 (by omega))).mono ?_⟩
      rintro e w1 ⟨A1, c1, A2, c2, rfl, hcc, ht1, hr1, hr2, hb1⟩
      have hlen := stepL_len p s[k]
      obtain ⟨l1, hl1⟩ : ∃ l, (stepL p s[k]).1 = l := ⟨_, rfl⟩
      obtain ⟨l2, hl2⟩ : ∃ l, (stepL p s[k]).2 = l := ⟨_, rfl⟩
      rw [hl1] at hcc hr1 hlen Hrun ⊢
      rw [hl2] at hr2 hlen Hrun ⊢
      clear hl1 hl2
      obtain ⟨fn, tmps, assign, body, hy, hR⟩ := HY.out pre l2 A2 c2 w1 (HJ.out _ _ _ hid.out.2.2.2.1 hb1) hr2 hlen.2 hpre
      have HR2 := Lib.hid hr2; clear hr2
      have HR1 := Lib.hid hr1; clear hr1
      have hbx := Lib.hid (show Boxed w1 Bs 9 (.string s) from (hb1.block _ hid.out.2.2.2.2.2.lt).trans hid.out.2.2.2.2.2)
      gi_wp2_with fail
      refine ⟨fun h => (by cases h), hR.mono ?_⟩
      rintro e W3 ⟨rfl, hJ3, hk3⟩
      have HF := Lib.hid (show l1.length ≤ c1 ∧ TyB W3 A1 ∧ Rd W3 A1 (cB l1) ∧ J (pre ++ l2) W3 ∧ Mk W3 ∧ Boxed W3 Bs 9 (.string s) from
        ⟨hcc, hk3.ty ht1, hk3.rd ht1 HR1.out, hJ3, (hid.out.2.2.2.2.1.keep hb1).below hk3.low hn₀, (hk3.same _ _ _ _ hbx.out (.inr rfl)).trans hbx.out⟩)
      clear hJ3 hk3 hy hR ht1
      gi_wp2
      go_roundw
      case rel => exact ⟨k + 1, A1, c1, by omega, by go_num, by rw [Hrun.out], by rw [Hrun.out]; exact HF⟩
      case measure => simp [intOf]; omega
    · have ht : s.data.toList.take k = s.data.toList := List.take_of_length_le (by simp; omega)
      rw [ht] at hst
      have Hst := Lib.hid (show codesL s.data.toList = st.2 ++ flushL st.1 by unfold codesL; rw [hst]); clear hst ht
      have hfl := flushL_len st.1
      gi_wp2_with fail
      refine ⟨trivial, fun h => (by cases h), (callsIn_wide.2 (flush_any A c st.1 _ hid.out.2.2.1 hid.out.2.2.2.2.1 hid.out.1 (by omega))).mono ?_⟩
      rintro e w1 ⟨A2, c2, rfl, hr2, hb1, _⟩
      obtain ⟨fn, tmps, assign, body, hy, hR⟩ := HY.out st.2 (flushL st.1) A2 c2 w1 (HJ.out _ _ _ hid.out.2.2.2.1 hb1) hr2 (by omega) hpre
      have HR2 := Lib.hid hr2; clear hr2
      gi_wp2_with fail
      refine ⟨fun h => (by cases h), hR.mono ?_⟩
      rintro e W3 ⟨rfl, hJ3, hk3⟩
      clear hk3 hy hR
      gi_wp2
      go_end0
      exact ⟨⟨_, rfl⟩, by rw [Hst.out]; exact hJ3⟩
end Go.Proofs.YtoilcigmpeaedaaGreatDoor.Utf
