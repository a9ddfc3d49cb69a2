/-
  OscC
-/
import Derived.Test.YtoilcigmpeaedaaGreatDoorF11
import Derived.Test.YtoilcigmpeaedaaGreatDoorF13
namespace Go.Proofs.YtoilcigmpeaedaaGreatDoor.Osc
open Go.RowKit Utf

theorem badC_all (zs : List Int) (k : Nat) (z : Int) (hz : zs[k]? = some z) (h : badC z = true) : zs.all (fun c => !badC c) = false := by
  rw [List.all_eq_false]
  exact ⟨z, List.mem_of_getElem? hz, by simp [h]⟩
theorem codes_le (s : ByteArray) : (codesL s.data.toList).length ≤ 2 * s.size + 1 := by
  have h1 := runL_len ([], []) s.data.toList
  have h2 : codesL s.data.toList = (runL ([], []) s.data.toList).2 ++ flushL (runL ([], []) s.data.toList).1 := rfl
  have h3 : s.data.toList.length = s.size := by simp
  have h4 := flushL_len (runL ([], []) s.data.toList).1
  rw [h2, List.length_append]
  simp at h1
  omega
theorem tit_bad (s : List UInt8) (k : Nat) (z : Int) (hz : (codesL s)[k]? = some z) (h : badC z = true) : titB s = false := by
  unfold titB
  rw [badC_all _ k z hz h]
  simp
theorem tit_end (s : List UInt8) (hs : s.length ≤ 510) (h : (codesL s).all (fun c => !badC c) = true) : titB s = decide (textL (codesL s) = s) := by
  unfold titB
  rw [h, decide_eq_true hs]
  simp
theorem all_snoc (zs : List Int) (k : Nat) (z : Int) (hz : zs[k]? = some z) (h : (zs.take k).all (fun c => !badC c) = true) (hb : badC z = false) : (zs.take (k + 1)).all (fun c => !badC c) = true := by
  rw [List.take_add_one, hz]
  simp only [Option.toList_some, List.all_append, h, List.all_cons, hb, List.all_nil]
  rfl
set_option maxRecDepth 100000 in
set_option maxHeartbeats 4000000 in
theorem isTitle_any (s : ByteArray) (w : World) (hm : Mk w) (hs : s.size ≤ 1000000) : Calls Tryz.prog 49 #[.string s] w fun e w' => e = .returned (.bool (titB s.data.toList)) ∧ Below w.heap.size w w' := by
  have hlen : s.data.toList.length = s.size := by simp
  by_cases h5 : s.size ≤ 510
  · have HC := Lib.hid (codes_any s w hm (by omega))
    have HT := Lib.hid (fun A c W h h2 => text_any A c (codesL s.data.toList) W h h2 (by have := codes_le s; omega))
    have HL := Lib.hid (codes_le s)
    have HB := Lib.hid (tit_bad s.data.toList)
    have HE := Lib.hid (tit_end s.data.toList (by omega))
    have HM := Lib.hid hm
    generalize hb : titB s.data.toList = b at HB HE ⊢
    generalize codesL s.data.toList = zs at HC HT HL HB HE
    clear hm hb
    go_enter Tryz.func49, Tryz.ntmps49
    go_wp2_with (go_at_call 78; refine HC.out.mono ?_; rintro e w1 ⟨v, rfl, hown, hb1⟩; obtain ⟨A, c, rfl, hnc, hr⟩ := own_slice hown)
    have HR := Lib.hid hr
    have HB1 := Lib.hid hb1
    have HH := Lib.hid (HM.out.keep hb1)
    have hzl := HL.out
    clear HC hown hr hb1
    go_loopw [13] (fun i wr => ∃ k : Nat, k ≤ zs.length ∧ i = .int .i64 (k : Int) ∧ Hid ((zs.take k).all (fun c => !badC c) = true) ∧ wr = w1) (fun i _ => zs.length - (intOf i).toNat)
    case atStart => exact ⟨0, by omega, rfl, Lib.hid rfl, rfl⟩
    case round =>
      obtain ⟨k, hk, rfl, hp, rfl⟩ := hrel
      by_cases hk2 : k < zs.length
      · obtain ⟨z, hz⟩ : ∃ z, zs[k]? = some z := ⟨zs[k], List.getElem?_eq_getElem hk2⟩
        obtain ⟨ad, rfl, hblk, hc⟩ := HR.out k _ (cI_at zs k z hz)
        cases hzb : badC z with
        | true =>
          have hfin := Lib.hid (HB.out k z hz hzb)
          clear HB HE HT hz hp hlen
          by_cases h32 : z < 32
          · have e1 : decide (z < 32) = true := decide_eq_true h32
            clear hzb h32
            go_wp2_with fail
            go_ret
            exact ⟨by rw [hfin.out]; rfl, HB1.out⟩
          · have hz1 : 127 ≤ z ∧ z ≤ 159 := by
              unfold badC at hzb
              rw [decide_eq_false h32] at hzb
              simpa using hzb
            have e1 : decide (z < 32) = false := decide_eq_false h32
            have e2 : decide (127 ≤ z) = true := decide_eq_true hz1.1
            have e3 : decide (z ≤ 159) = true := decide_eq_true hz1.2
            clear hzb h32 hz1
            go_wp2_with fail
            go_ret
            exact ⟨by rw [hfin.out]; rfl, HB1.out⟩
        | false =>
          have hp2 := Lib.hid (all_snoc zs k z hz hp.out hzb)
          clear HB HE HT hz hp hlen
          have h32 : ¬ z < 32 := fun h => by unfold badC at hzb; rw [decide_eq_true h] at hzb; cases hzb
          have e1 : decide (z < 32) = false := decide_eq_false h32
          by_cases h127 : 127 ≤ z
          · have h159 : ¬ z ≤ 159 := fun h => by unfold badC at hzb; rw [decide_eq_true h, decide_eq_true h127] at hzb; simp at hzb
            have e2 : decide (127 ≤ z) = true := decide_eq_true h127
            have e3 : decide (z ≤ 159) = false := decide_eq_false h159
            clear hzb h32 h127 h159
            go_wp2_with fail
            refine ⟨⟨k + 1, by omega, by go_num, hp2, trivial⟩, ?_⟩
            show zs.length - ((k : Int) + 1).toNat < zs.length - (k : Int).toNat
            omega
          · have e2 : decide (127 ≤ z) = false := decide_eq_false h127
            clear hzb h32 h127
            go_wp2_with fail
            refine ⟨⟨k + 1, by omega, by go_num, hp2, trivial⟩, ?_⟩
            show zs.length - ((k : Int) + 1).toNat < zs.length - (k : Int).toNat
            omega
      · obtain rfl : k = zs.length := by omega
        have hfin := HE.out (by have := hp.out; rwa [List.take_of_length_le (Nat.le_refl _)] at this)
        have HF := Lib.hid hfin
        clear HB HE hp hfin
        go_wp2_with (go_at_call 79; refine (HT.out _ _ _ HR.out HH.out).mono ?_; rintro e w2 ⟨rfl, hb2⟩)
        go_ret
        exact ⟨by rw [HF.out]; exact congrArg (fun x => Ending.returned (.bool x)) (by rw [ByteArray.toList_eq, Bool.eq_iff_iff]; simp), HB1.out.trans (hb2.mono HB1.out.size)⟩
  · have hb : titB s.data.toList = false := tit_long _ (by omega)
    rw [hb]
    clear hb hm hlen
    go_enter Tryz.func49, Tryz.ntmps49
    go_wp2
    go_ret
    exact ⟨rfl, Below.refl _ _⟩
end Go.Proofs.YtoilcigmpeaedaaGreatDoor.Osc
