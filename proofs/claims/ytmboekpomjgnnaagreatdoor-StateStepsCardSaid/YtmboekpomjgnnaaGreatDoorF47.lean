/-
  StaE
-/
import Derived.Test.YtmboekpomjgnnaaGreatDoorF39
import Derived.Test.YtmboekpomjgnnaaGreatDoorF44
import Derived.Test.YtmboekpomjgnnaaGreatDoorF45
import Derived.Test.YtmboekpomjgnnaaGreatDoorF46
namespace Go.Proofs.YtmboekpomjgnnaaGreatDoor.Sta
open Go.RowKit Utf Par

/-- sizes that the reference's calls bear -/
def Kp (p : PS) : Prop := p.utf.length ≤ 1000000 ∧ p.ps.length ≤ 1000000 ∧ p.it.size ≤ 1000000 ∧ p.tx.size ≤ 1000000
theorem may_any (p : PS) (au aq : Option Addr) (nu cu nq cq : Nat) (w : World) (hr : RS w (.slice au nu cu) (.slice aq nq cq) p) (h1 : nu = p.utf.length) (h2 : nq = p.ps.length) (hk : Kp p) :
    Calls Tryz.prog 21 #[.agg (cS p (.slice au nu cu) (.slice aq nq cq))] w fun e w' => e = .returned (.bool (mayS p)) ∧ Below w.heap.size w w' := by
  obtain ⟨k1, k2, k3, k4⟩ := hk
  have l1 : nu ≤ 1000000 := by omega
  have l2 : nq ≤ 1000000 := by omega
  by_cases ho : p.st < 0 ∨ 15 ≤ p.st
  · exact may_out p au aq nu cu nq cq w ho
  · cases hb : p.bad with
    | true => exact rmay_bad p au aq nu cu nq cq w h1 h2 hb ho
    | false =>
      rcases (show p.st = 0 ∨ (p.st = 1 ∨ p.st = 3 ∨ p.st = 8 ∨ p.st = 13 ∨ p.st = 14) ∨ p.st = 2 ∨ (p.st = 4 ∨ p.st = 9) ∨ (p.st = 5 ∨ p.st = 10) ∨ (p.st = 6 ∨ p.st = 7) ∨ (p.st = 11 ∨ p.st = 12) by omega) with h | h | h | h | h | h | h
      · exact may_z p au aq nu cu nq cq w hr h1 h2 l1 l2 k3 k4 hb h
      · exact may_n p au aq nu cu nq cq w hr h1 h2 l1 l2 k3 k4 hb h
      · exact may_s p au aq nu cu nq cq w hr h1 h2 l1 l2 k3 k4 hb h
      · exact may_p p au aq nu cu nq cq w hr h1 h2 l1 l2 k3 k4 hb h
      · exact may_i p au aq nu cu nq cq w hr h1 h2 l1 l2 k3 k4 hb h
      · exact may_o p au aq nu cu nq cq w hr h1 h2 l1 l2 k3 k4 hb h
      · exact may_t p au aq nu cu nq cq w hr h1 h2 l1 l2 k3 k4 hb h
def chkS (p : PS) : Int := if mayS p then 0 else 160
set_option maxRecDepth 100000 in
set_option maxHeartbeats 2000000 in
theorem rcheck6_any (p : PS) (au aq : Option Addr) (nu cu nq cq : Nat) (w : World) (hr : RS w (.slice au nu cu) (.slice aq nq cq) p) (h1 : nu = p.utf.length) (h2 : nq = p.ps.length) (hk : Kp p) :
    Calls Tryz.prog 9 #[.agg (cS p (.slice au nu cu) (.slice aq nq cq))] w fun e w' => e = .returned (.int .i64 (chkS p)) ∧ Below w.heap.size w w' := by
  have HM := fun W (hb : Below w.heap.size w W) => Lib.hid (may_any p au aq nu cu nq cq W (hr.keep hb) h1 h2 hk)
  clear h1 h2 hk hr
  unfold chkS
  generalize mayS p = m at HM ⊢
  obtain ⟨st, utf, pr, fi, pp, it, tx, bad⟩ := p
  unfold cS at HM ⊢
  dsimp only at *
  have hb1 := below_box w (.cells #[.int .i64 st, .slice au nu cu, .int .u8 (pr.toNat : Int), .int .u8 (fi.toNat : Int), .slice aq nq cq, .string it, .string tx, .bool bad] 25)
  cases m
  · go_enter Tryz.func9, Tryz.ntmps9
    go_wp2_with (go_at_call 21; refine (HM _ hb1).out.mono ?_; rintro e w' ⟨rfl, hb⟩)
    go_ret
    exact ⟨rfl, up hb1 hb⟩
  · go_enter Tryz.func9, Tryz.ntmps9
    go_wp2_with (go_at_call 21; refine (HM _ hb1).out.mono ?_; rintro e w' ⟨rfl, hb⟩)
    go_ret
    exact ⟨rfl, up hb1 hb⟩
end Go.Proofs.YtmboekpomjgnnaaGreatDoor.Sta
