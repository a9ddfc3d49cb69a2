/-
  Contracts of slices.Clone at bytes, and of the utf package's take, Flush, Step.
-/
import Derived.Test.YtoilcigmpeaedaaGreatDoorUtfD
namespace Go.Proofs.YtoilcigmpeaedaaGreatDoor.Utf
open Go.RowKit

theorem infoB : (Tryz.prog.info? 5).map (fun i => (i.zero, i.size, i.bytes)) = some (some (.int .u8 0), 1, 1) := by kernel_rfl
theorem infoI : (Tryz.prog.info? 3).map (fun i => (i.zero, i.size, i.bytes)) = some (some (.int .i64 0), 1, 8) := by kernel_rfl

set_option maxRecDepth 100000 in
set_option maxHeartbeats 1000000 in
theorem clone_any (ad : Addr) (c : Nat) (bs : List UInt8) (w : World) (h : Rd w (some ad) (cB bs)) (hs : bs.length ≤ 100000) :
    Calls Tryz.prog 128 #[.slice (some ad) bs.length c] w fun e w' => ∃ v, e = .returned v ∧ w'.ownsRow w.heap.size 5 1 v bs.length (cB bs) ∧ Below w.heap.size w w' := by
  obtain ⟨i0, hi0, hz0, hz1, hz2⟩ := info_parts infoB
  have H := Lib.hid h; clear h
  have hq := fun wx => Lib.run_eql_slice_nil (P := Tryz.prog) wx 38 5 (some ad) bs.length c 0 0 Tryz.underlying38
  go_enter Tryz.func128, Tryz.ntmps128
  have hR : Rd (w.alloc (.cells #[] 5)) (some ad) (cB bs) := (H.out).below ((Below.refl _ _).alloc (Nat.le_refl _) _)
  have HR := Lib.hid hR; clear hR
  have HO := Lib.hid (World.ownsRow_made (base := w.heap.size) (e := 5) (size := 1) w #[] 0 (Nat.le_refl _) (by unfold maxLen; omega) rfl)
  go_wp2_with (at_builtin; refine wpList_appB _ rfl _ _ 38 rfl w.heap.size 5 i0 _ 1 Tryz.underlying38 hi0 hz0 hz1 hz2 rfl _ 0 [] rfl HO.out (some ad) bs.length c (cB bs) rfl (cB_len _) HR.out (cB_one _) (by omega) (by omega) (by simp) ?_; intro v1 w1 hown1 hb1)
  go_ret
  exact ⟨v1, rfl, by simpa using hown1, ((Below.refl _ _).alloc (Nat.le_refl _) _).trans hb1⟩

/-- it lies, where it lies anywhere, in block B or a later one -/
def HiA (B : Nat) (A : Option Addr) : Prop := ∀ ad, A = some ad → B ≤ ad.block
theorem HiA.none (B : Nat) : HiA B none := fun _ h => by cases h
theorem HiA.mono {B B' : Nat} {A : Option Addr} (h : HiA B A) (hB : B' ≤ B) : HiA B' A := fun ad e => Nat.le_trans hB (h ad e)
theorem HiA.at {B b o : Nat} (h : B ≤ b) : HiA B (some ⟨b, o, .none⟩) := fun _ e => by cases e; exact h
theorem HiA.own {w : World} {B n size m c : Nat} {e : TypeId} {A : Option Addr} {xs : List Value} (h : w.ownsRow B e size (.slice A m c) n xs) : HiA B A := fun ad he => by
  rcases h.2 with ⟨h0, _⟩ | ⟨g, cap, cur, hv, hg, _⟩
  · cases h0; cases he
  · cases hv; cases he; exact hg
def TakePost (A0 : Option Addr) (bs : List UInt8) (w : World) (e : Ending) (w' : World) : Prop :=
  ∃ A1 c1 A2 c2, (A1 = A0 ∨ A1 = none) ∧ e = .returned (.tuple #[.slice A1 (takeL bs).1.length c1, .slice A2 (takeL bs).2.length c2]) ∧ (takeL bs).1.length ≤ c1 ∧ Rd w' A1 (cB (takeL bs).1) ∧ Rd w' A2 (cI (takeL bs).2) ∧ Below w.heap.size w w' ∧ HiA w.heap.size A2

set_option maxRecDepth 100000 in
set_option maxHeartbeats 1000000 in
theorem take_any (A : Option Addr) (c : Nat) (b : UInt8) (r : List UInt8) (w : World) (h : Rd w A (cB (b :: r))) (hm : Mk w) (hl : r.length + 1 ≤ fl b) (hc : r.length + 1 ≤ c) :
    Calls Tryz.prog 130 #[.slice A (r.length + 1) c] w (TakePost A (b :: r) w) := by
  obtain ⟨ad, rfl, hblk, hc0⟩ := h 0 (.int .u8 (b.toNat : Int)) rfl
  have hc0 : w.cell? ad = some (.int .u8 (b.toNat : Int)) := by simpa [Addr.add] using hc0
  have hn := fl_bd b
  have H := Lib.hid h; clear h
  have HM := Lib.hid hm; clear hm
  by_cases hlt : r.length + 1 < fl b
  · have HF := Lib.hid (show takeL (b :: r) = (b :: r, []) by simp [takeL, hlt])
    go_enter Tryz.func130, Tryz.ntmps130
    go_wp2_with fail
    refine (firstLength_any _ _).mono ?_
    rintro e w' ⟨rfl, rfl⟩
    go_wp2
    go_ret2
    refine ⟨some ad, c, none, 0, .inl rfl, ?_, ?_, ?_, ?_, Below.refl _ _, HiA.none _⟩
    · rw [HF.out]; rfl
    · rw [HF.out]; exact hc
    · rw [HF.out]; exact H.out
    · rw [HF.out]; exact Rd.nil _ _
  · have HF := Lib.hid (show takeL (b :: r) = ([], [(low (b :: r) : Int)]) by simp [takeL, hlt])
    go_enter Tryz.func130, Tryz.ntmps130
    go_wp2_with fail
    refine (firstLength_any _ _).mono ?_
    rintro e w' ⟨rfl, rfl⟩
    go_wp2_with fail
    refine (span_any _ _ b r _ H.out HM.out hl hc).mono ?_
    rintro e w1 ⟨rfl, hb1⟩
    go_wp2
    go_ret2
    refine ⟨none, 0, some ⟨w1.heap.size, 0, none⟩, 1, .inr rfl, ?_, ?_, ?_, ?_, hb1.alloc hb1.size _, HiA.at hb1.size⟩
    · rw [HF.out]; rfl
    · rw [HF.out]; exact Nat.le_refl _
    · rw [HF.out]; exact Rd.nil _ _
    · rw [HF.out]; exact Rd.one _ _ _

def IntsPost (zs : List Int) (w : World) (e : Ending) (w' : World) : Prop :=
  ∃ A c, e = .returned (.slice A zs.length c) ∧ Rd w' A (cI zs) ∧ Below w.heap.size w w' ∧ ∀ ad, A = some ad → w.heap.size ≤ ad.block
set_option maxRecDepth 100000 in
theorem flush_any (A : Option Addr) (c : Nat) (bs : List UInt8) (w : World) (h : Rd w A (cB bs)) (hm : Mk w) (hc : bs.length ≤ c) (hs : bs.length ≤ 1000000) :
    Calls Tryz.prog 111 #[.slice A bs.length c] w (IntsPost (flushL bs) w) := by
  have H := Lib.hid h; clear h
  have HM := Lib.hid hm; clear hm
  obtain ⟨g, hg⟩ : ∃ g, g = preB bs := ⟨_, rfl⟩
  have Hg := Lib.hid hg; clear hg
  go_enter Tryz.func111, Tryz.ntmps111
  go_wp2_with fail
  refine (prefix_any _ _ _ _ H.out HM.out hc hs).mono ?_
  rintro e w1 ⟨rfl, hb1⟩
  rw [← Hg.out]
  cases g
  · have HF := Lib.hid (show flushL bs = [] by simp [flushL, ← Hg.out])
    go_wp2
    go_ret
    refine ⟨none, 0, ?_, ?_, hb1, fun _ h => by cases h⟩
    · rw [HF.out]; rfl
    · rw [HF.out]; exact Rd.nil _ _
  · have HF := Lib.hid (show flushL bs = [65533] by simp [flushL, ← Hg.out])
    go_wp2
    go_ret
    refine ⟨some ⟨w1.heap.size, 0, none⟩, 1, ?_, ?_, hb1.alloc hb1.size _, fun _ h => by cases h; exact hb1.size⟩
    · rw [HF.out]; rfl
    · rw [HF.out]; exact Rd.one _ _ _
end Go.Proofs.YtoilcigmpeaedaaGreatDoor.Utf
