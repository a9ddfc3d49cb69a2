/-
  Contracts of the decoder's escaped and of rules.
-/
import Derived.Test.YtefkbdmgplfgoaaGreatDoorStaZ
namespace Go.Proofs.YtefkbdmgplfgoaaGreatDoor.Sta
open Go.RowKit Utf Par
variable {X : Nat → Prop}

set_option maxRecDepth 100000 in
set_option maxHeartbeats 2000000 in
theorem escaped_any (c : UInt8) (b : Nat) (g : Option Nat) (w : World) (p : PS) (l : List EV) (h : Dec X b g w p l) (hs : l.length ≤ 90000) :
    Calls Tryz.prog 91 #[.pointer (some ⟨b, 0, none⟩), .int .u8 (c.toNat : Int)] w (Did X b g w (escD p c) l) := by
  have HC := Lib.hid (dispatch_any 3 c b g w p l h hs)
  have HH := Lib.hid h
  clear h hs
  unfold escD
  obtain ⟨t, ht⟩ : ∃ t, signB c = t := ⟨_, rfl⟩
  have HT := Lib.hid ht
  rw [ht]
  clear ht
  cases t
  case true =>
    rw [if_pos rfl]
    go_enter Tryz.func91, Tryz.ntmps91
    go_wp2_with (first
      | (go_at_call 47; refine (isSign_any c _).mono ?_; rintro e w1 ⟨rfl, rfl⟩; rw [HT.out])
      | (go_at_call 65; refine (enter_any b g w p l _ HH.out).mono ?_; rintro e w1 ⟨rfl, g1, hd, hf⟩; have HA := Lib.hid ((addInter_any c b g1 w1 (begS 2) _ hd (by show (0 : Nat) ≤ _; omega)).mono (fun _ _ x => Did.seq (w := w) hd hf x)); clear hd hf)
      | (go_at_call 111; refine HA.out.mono ?_; rintro e w2 ⟨rfl, hd⟩; have HD := Lib.hid hd; clear hd))
    go_end0
    have hD := HD.out
    rw [List.append_nil] at hD
    exact ⟨rfl, hD⟩
  rw [if_neg (by decide)]
  have HSG := Lib.hid (show Calls Tryz.prog 47 #[.int .u8 (c.toNat : Int)] w fun e w' => e = .returned (.bool false) ∧ w = w' from (isSign_any c w).mono fun e w' ⟨h1, h2⟩ => ⟨by rw [h1, HT.out], h2⟩)
  by_cases h91 : c.toNat = 91
  · rw [if_pos h91]
    have e91 : (c.toNat : Int) = 91 := by omega
    rw [e91] at HSG ⊢
    clear e91 HT
    go_enter Tryz.func91, Tryz.ntmps91
    go_wp2_with (first
      | (go_at_call 47; refine HSG.out.mono ?_; rintro e w1 ⟨rfl, rfl⟩)
      | (go_at_call 65; refine (enter_any b g w p l _ HH.out).mono ?_; rintro e w1 ⟨rfl, hd⟩; have HD := Lib.hid hd; clear hd))
    go_end0
    exact ⟨rfl, HD.out⟩
  rw [if_neg h91]
  by_cases h93 : c.toNat = 93
  · rw [if_pos h93]
    have e93 : (c.toNat : Int) = 93 := by omega
    rw [e93] at HSG ⊢
    clear e93 HT
    go_enter Tryz.func91, Tryz.ntmps91
    go_wp2_with (first
      | (go_at_call 47; refine HSG.out.mono ?_; rintro e w1 ⟨rfl, rfl⟩)
      | (go_at_call 65; refine (enter_any b g w p l _ HH.out).mono ?_; rintro e w1 ⟨rfl, hd⟩; have HD := Lib.hid hd; clear hd))
    go_end0
    exact ⟨rfl, HD.out⟩
  rw [if_neg h93]
  by_cases h80 : c.toNat = 80
  · rw [if_pos h80]
    have e80 : (c.toNat : Int) = 80 := by omega
    rw [e80] at HSG ⊢
    clear e80 HT
    go_enter Tryz.func91, Tryz.ntmps91
    go_wp2_with (first
      | (go_at_call 47; refine HSG.out.mono ?_; rintro e w1 ⟨rfl, rfl⟩)
      | (go_at_call 65; refine (enter_any b g w p l _ HH.out).mono ?_; rintro e w1 ⟨rfl, hd⟩; have HD := Lib.hid hd; clear hd))
    go_end0
    exact ⟨rfl, HD.out⟩
  rw [if_neg h80]
  by_cases hx : c.toNat = 88 ∨ c.toNat = 94 ∨ c.toNat = 95
  · rw [if_pos hx]
    rcases hx with h | h | h
    · have e88 : (c.toNat : Int) = 88 := by omega
      rw [e88] at HSG ⊢
      clear e88 HT
      go_enter Tryz.func91, Tryz.ntmps91
      go_wp2_with (first
        | (go_at_call 47; refine HSG.out.mono ?_; rintro e w1 ⟨rfl, rfl⟩)
        | (go_at_call 65; refine (enter_any b g w p l _ HH.out).mono ?_; rintro e w1 ⟨rfl, hd⟩; have HD := Lib.hid hd; clear hd))
      go_end0
      exact ⟨rfl, HD.out⟩
    · have e94 : (c.toNat : Int) = 94 := by omega
      rw [e94] at HSG ⊢
      clear e94 HT
      go_enter Tryz.func91, Tryz.ntmps91
      go_wp2_with (first
        | (go_at_call 47; refine HSG.out.mono ?_; rintro e w1 ⟨rfl, rfl⟩)
        | (go_at_call 65; refine (enter_any b g w p l _ HH.out).mono ?_; rintro e w1 ⟨rfl, hd⟩; have HD := Lib.hid hd; clear hd))
      go_end0
      exact ⟨rfl, HD.out⟩
    · have e95 : (c.toNat : Int) = 95 := by omega
      rw [e95] at HSG ⊢
      clear e95 HT
      go_enter Tryz.func91, Tryz.ntmps91
      go_wp2_with (first
        | (go_at_call 47; refine HSG.out.mono ?_; rintro e w1 ⟨rfl, rfl⟩)
        | (go_at_call 65; refine (enter_any b g w p l _ HH.out).mono ?_; rintro e w1 ⟨rfl, hd⟩; have HD := Lib.hid hd; clear hd))
      go_end0
      exact ⟨rfl, HD.out⟩
  · rw [if_neg hx]
    have d91 : ((c.toNat : Int) == 91) = false := by simp; omega
    have d93 : ((c.toNat : Int) == 93) = false := by simp; omega
    have d80 : ((c.toNat : Int) == 80) = false := by simp; omega
    have d88 : ((c.toNat : Int) == 88) = false := by simp; omega
    have d94 : ((c.toNat : Int) == 94) = false := by simp; omega
    have d95 : ((c.toNat : Int) == 95) = false := by simp; omega
    go_enter Tryz.func91, Tryz.ntmps91
    go_wp2_with (first
      | (go_at_call 47; refine (isSign_any c _).mono ?_; rintro e w1 ⟨rfl, rfl⟩; rw [HT.out])
      | (go_at_call 112; refine HC.out.mono ?_; rintro e w1 ⟨rfl, hd⟩; have HD := Lib.hid hd; clear hd))
    go_end0
    exact ⟨rfl, HD.out⟩
/-- what rules hands back -/
def rulA : Array Value := #[.func (.func 90) #[] #[], .func (.func 91) #[] #[], .func (.func 92) #[] #[], .func (.func 93) #[] #[], .func (.func 94) #[] #[], .func (.func 95) #[] #[], .func (.func 96) #[] #[], .func (.func 97) #[] #[], .func (.func 93) #[] #[], .func (.func 94) #[] #[], .func (.func 95) #[] #[], .func (.func 98) #[] #[], .func (.func 97) #[] #[], .func (.func 99) #[] #[], .func (.func 97) #[] #[]]
def rulV : Value := .agg rulA
theorem below_setCells {B : Nat} {a : World} (b : Nat) : ∀ (vs : List Value) (o : Nat) (w : World), Below B a w → B ≤ b → Below B a (w.setCells b o vs)
  | [], _, _, h, _ => h
  | v :: r, o, w, h, hb => by rw [World.setCells]; exact below_setCells b r _ _ (h.setCell (p := ⟨b, o, none⟩) hb v) hb
theorem szR : (Tryz.prog.info? 97).map (·.size) = some rulA.size := by kernel_rfl
theorem rulA_one : rulA.all (·.oneCell') = true := by decide +kernel
set_option maxRecDepth 100000 in
set_option maxHeartbeats 2000000 in
theorem rules_any (w : World) : Calls Tryz.prog 69 #[] w fun e w' => e = .returned rulV ∧ Below w.heap.size w w' := by
  go_enter Tryz.func69, Tryz.ntmps69
  go_wp2_with ((with_reducible refine wpList_store_mid rfl 97 (.tmp 0) (.tmp 1) rfl w.heap.size 0 rulA rfl rfl ?ht szR rulA_one ?_); (case ht => exact (Box.new w #[Value.nilFunc, Value.nilFunc, Value.nilFunc, Value.nilFunc, Value.nilFunc, Value.nilFunc, Value.nilFunc, Value.nilFunc, Value.nilFunc, Value.nilFunc, Value.nilFunc, Value.nilFunc, Value.nilFunc, Value.nilFunc, Value.nilFunc] 97).2.2))
  refine bodyPost_ret (ret_cell1 rfl _ _ ⟨w.heap.size, 0, none⟩ rulV rfl ?_) rfl ?_
  · exact (run_loadVar_mid _ w.heap.size 0 97 rulA.toList _ (World.rangeAt_setCells_same _ _ _ _ (Box.new w #[Value.nilFunc, Value.nilFunc, Value.nilFunc, Value.nilFunc, Value.nilFunc, Value.nilFunc, Value.nilFunc, Value.nilFunc, Value.nilFunc, Value.nilFunc, Value.nilFunc, Value.nilFunc, Value.nilFunc, Value.nilFunc, Value.nilFunc] 97).2.2) Tryz.underlying97 rfl (by kernel_rfl)).trans rfl
  · exact ⟨rfl, below_setCells _ _ _ _ (below_box _ _) (Nat.le_refl _)⟩
end Go.Proofs.YtefkbdmgplfgoaaGreatDoor.Sta
