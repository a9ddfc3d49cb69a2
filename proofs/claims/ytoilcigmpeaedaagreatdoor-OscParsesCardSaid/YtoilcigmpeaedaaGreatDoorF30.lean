/-
  OscD
-/
import Derived.Test.YtoilcigmpeaedaaGreatDoorF14
import Derived.Test.YtoilcigmpeaedaaGreatDoorF29
namespace Go.Proofs.YtoilcigmpeaedaaGreatDoor.Osc
open Go.RowKit Utf

set_option maxRecDepth 100000 in
set_option maxHeartbeats 4000000 in
theorem rtitle_any (s : ByteArray) (w : World) (hs : s.size ≤ 1000000) : Calls Tryz.prog 29 #[.string s] w fun e w' => e = .returned (.bool (titB s.data.toList)) ∧ Below w.heap.size w w' := by
  have hlen : s.data.toList.length = s.size := by simp
  by_cases h5 : s.size ≤ 510
  · have HC := Lib.hid (rcodes_any s w (by omega))
    have HT := Lib.hid (fun A c W h => rtext_any A c _ (codesL s.data.toList) rfl W h (by have := codes_le s; omega))
    have HL := Lib.hid (codes_le s)
    have HB := Lib.hid (tit_bad s.data.toList)
    have HE := Lib.hid (tit_end s.data.toList (by omega))
    generalize hb : titB s.data.toList = b at HB HE ⊢
    generalize codesL s.data.toList = zs at HC HT HL HB HE
    clear hb
    go_enter Tryz.func29, Tryz.ntmps29
    go_wp2_with (go_at_call 58; refine HC.out.mono ?_; rintro e w1 ⟨v, rfl, hown, hb1⟩; obtain ⟨A, c, rfl, hnc, hr⟩ := own_slice hown)
    have HR := Lib.hid hr
    have HB1 := Lib.hid hb1
    have hzl := HL.out
    clear HC hown hr hb1
    go_loopw [4] (fun i wr => ∃ k : Nat, k ≤ zs.length ∧ i = .int .i64 (k : Int) ∧ Hid ((zs.take k).all (fun c => !badC c) = true) ∧ wr = w1) (fun i _ => zs.length - (intOf i).toNat)
    case atStart => exact ⟨0, by omega, rfl, Lib.hid rfl, rfl⟩
    case round =>
      obtain ⟨k, hk, rfl, hp, rfl⟩ := hrel
      by_cases hk2 : k < zs.length
      · obtain ⟨z, hz⟩ : ∃ z, zs[k]? = some z := ⟨zs[k], List.getElem?_eq_getElem hk2⟩
        obtain ⟨ad, rfl, hblk, hc⟩ := HR.out k _ (cI_at zs k z hz)
        cases hzb : badC z with
        | true =>
          have hfin := Lib.hid (HB.out k z hz hzb)
          clear HB HE HT hz hp hlen
          by_cases h32 : z < 32
          · have e1 : decide (z < 32) = true := decide_eq_true h32
            clear hzb h32
            go_wp2_with fail
            go_ret
            exact ⟨by rw [hfin.out]; rfl, HB1.out⟩
          · have hz1 : 127 ≤ z ∧ z ≤ 159 := by
              unfold badC at hzb
              rw [decide_eq_false h32] at hzb
              simpa using hzb
            have e1 : decide (z < 32) = false := decide_eq_false h32
            have e2 : decide (127 ≤ z) = true := decide_eq_true hz1.1
            have e4 : (127 : Int) ≤ z := hz1.1
            have e5 : z ≤ 159 := hz1.2
            have e3 : decide (z ≤ 159) = true := decide_eq_true hz1.2
            clear hzb h32 hz1
            go_wp2_with fail
            go_ret
            exact ⟨by rw [hfin.out]; rfl, HB1.out⟩
        | false =>
          have hp2 := Lib.hid (all_snoc zs k z hz hp.out hzb)
          clear HB HE HT hz hp hlen
          have h32 : ¬ z < 32 := fun h => by unfold badC at hzb; rw [decide_eq_true h] at hzb; cases hzb
          have e1 : decide (z < 32) = false := decide_eq_false h32
          by_cases h127 : 127 ≤ z
          · have h159 : ¬ z ≤ 159 := fun h => by unfold badC at hzb; rw [decide_eq_true h, decide_eq_true h127] at hzb; simp at hzb
            have e2 : decide (127 ≤ z) = true := decide_eq_true h127
            have e3 : decide (z ≤ 159) = false := decide_eq_false h159
            clear hzb h32 h127 h159
            go_wp2_with fail
            refine ⟨⟨k + 1, by omega, by go_num, hp2, trivial⟩, ?_⟩
            show zs.length - ((k : Int) + 1).toNat < zs.length - (k : Int).toNat
            omega
          · have e2 : decide (127 ≤ z) = false := decide_eq_false h127
            clear hzb h32 h127
            go_wp2_with fail
            refine ⟨⟨k + 1, by omega, by go_num, hp2, trivial⟩, ?_⟩
            show zs.length - ((k : Int) + 1).toNat < zs.length - (k : Int).toNat
            omega
      · obtain rfl : k = zs.length := by omega
        have hfin := HE.out (by have := hp.out; rwa [List.take_of_length_le (Nat.le_refl _)] at this)
        have HF := Lib.hid hfin
        clear HB HE hp hfin
        go_wp2_with (go_at_call 59; refine (HT.out _ _ _ HR.out).mono ?_; rintro e w2 ⟨rfl, hb2⟩)
        go_ret
        exact ⟨by rw [HF.out]; exact congrArg (fun x => Ending.returned (.bool x)) (by rw [ByteArray.toList_eq, Bool.eq_iff_iff]; simp), HB1.out.trans (hb2.mono HB1.out.size)⟩
  · have hb : titB s.data.toList = false := tit_long _ (by omega)
    rw [hb]
    clear hb hlen
    go_enter Tryz.func29, Tryz.ntmps29
    go_wp2
    go_ret
    exact ⟨rfl, Below.refl _ _⟩
end Go.Proofs.YtoilcigmpeaedaaGreatDoor.Osc
