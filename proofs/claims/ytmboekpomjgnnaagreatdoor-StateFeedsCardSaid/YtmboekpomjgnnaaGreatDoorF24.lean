/-
  StaI
-/
import Derived.Test.YtmboekpomjgnnaaGreatDoorF11
namespace Go.Proofs.YtmboekpomjgnnaaGreatDoor.Sta
open Go.RowKit Utf Par

/-- what a call returns that hands back a parse -/
def Ret1 (r : PS) (w0 w : World) (e : Ending) (w' : World) : Prop := ∃ u q, e = .returned (.agg (cS r u q)) ∧ (∀ W, Agr w0 w w' W → RS W u q r) ∧ Below w.heap.size w w'
theorem str1 (w : World) (b : UInt8) (t : TypeId) : (convert 22 9 (.slice (some ⟨w.heap.size, 0, none⟩) 1 1)).run Tryz.prog (w.alloc (.cells #[.int .u8 (b.toNat : Int)] t)) = .ok (.string (bs1 b)) (w.alloc (.cells #[.int .u8 (b.toNat : Int)] t)) :=
  str_of (w.alloc (.cells #[.int .u8 (b.toNat : Int)] t)) (some ⟨w.heap.size, 0, none⟩) 1 [b] (Rd.one _ _ _)
set_option maxRecDepth 100000 in
set_option maxHeartbeats 8000000 in
theorem signed_any (p : PS) (b : UInt8) (au aq : Option Addr) (nu cu nq cq : Nat) (w0 w : World) (hr : RS w0 (.slice au nu cu) (.slice aq nq cq) p) (hi : p.it.size ≤ 1000000) :
    Calls Tryz.prog 74 #[.agg (cS p (.slice au nu cu) (.slice aq nq cq)), .int .u8 (b.toNat : Int)] w (Ret1 (sigS p b) w0 w) := by
  have HRS := Lib.hid hr; clear hr
  obtain ⟨st, utf, pr, fi, pp, it, tx, bad⟩ := p
  dsimp only at hi
  by_cases hs : bad = true ∨ it.size = 2
  · rw [show sigS ⟨st, utf, pr, fi, pp, it, tx, bad⟩ b = spoS st by unfold sigS; rw [if_pos hs]]
    unfold cS
    dsimp only at *
    have hx1 := Box.new (w.alloc (.cells #[.int .i64 st, .slice au nu cu, .int .u8 (pr.toNat : Int), .int .u8 (fi.toNat : Int), .slice aq nq cq, .string it, .string tx, .bool bad] 25)) #[.int .i64 0, .slice none 0 0, .int .u8 0, .int .u8 0, .slice none 0 0, .string ⟨#[]⟩, .string ⟨#[]⟩, .bool false] 25
    have hb1 : Below w.heap.size w ((w.alloc (.cells #[.int .i64 st, .slice au nu cu, .int .u8 (pr.toNat : Int), .int .u8 (fi.toNat : Int), .slice aq nq cq, .string it, .string tx, .bool bad] 25)).alloc (.cells #[.int .i64 0, .slice none 0 0, .int .u8 0, .int .u8 0, .slice none 0 0, .string ⟨#[]⟩, .string ⟨#[]⟩, .bool false] 25)) := up (below_box _ _) (below_box _ _)
    rw [World.size_alloc] at hx1
    have HX1 := Lib.hid hx1
    have HB1 := Lib.hid hb1
    clear hx1 hb1
    rcases hs with rfl | hs
    · go_enter Tryz.func74, Tryz.ntmps74
      go_wp2_with (go_at_call 72; refine (spoilt_any _ _).mono ?_; rintro e w3 ⟨rfl, hb3⟩; have hx3 := HX1.out.keep hb3; obtain ⟨z0, v0, z1, v1, z2, v2, z3, v3, z4, v4, z5, v5, z6, v6, z7, v7⟩ := cf8 hx3; have l3 := hx3.1; have HX3 := Lib.hid hx3; clear hx3)
      refine bodyPost_ret (ret_cell1 rfl _ _ ⟨w.heap.size + 1, 0, none⟩ _ rfl (load_par8 _ _ _ _ _ _ _ _ _ _ (box_set8 _ _ _ _ _ _ _ _ HX3.out))) rfl ?_
      exact ⟨_, _, rfl, fun W _ => RS.nil _ _ rfl rfl, below_set8 _ _ _ _ _ _ _ _ _ (up HB1.out hb3) (by omega)⟩
    · cases bad
      · have e2 : ((it.size : Int) == 2) = true := by simp; omega
        go_enter Tryz.func74, Tryz.ntmps74
        go_wp2_with (go_at_call 72; refine (spoilt_any _ _).mono ?_; rintro e w3 ⟨rfl, hb3⟩; have hx3 := HX1.out.keep hb3; obtain ⟨z0, v0, z1, v1, z2, v2, z3, v3, z4, v4, z5, v5, z6, v6, z7, v7⟩ := cf8 hx3; have l3 := hx3.1; have HX3 := Lib.hid hx3; clear hx3)
        refine bodyPost_ret (ret_cell1 rfl _ _ ⟨w.heap.size + 1, 0, none⟩ _ rfl (load_par8 _ _ _ _ _ _ _ _ _ _ (box_set8 _ _ _ _ _ _ _ _ HX3.out))) rfl ?_
        exact ⟨_, _, rfl, fun W _ => RS.nil _ _ rfl rfl, below_set8 _ _ _ _ _ _ _ _ _ (up HB1.out hb3) (by omega)⟩
      · go_enter Tryz.func74, Tryz.ntmps74
        go_wp2_with (go_at_call 72; refine (spoilt_any _ _).mono ?_; rintro e w3 ⟨rfl, hb3⟩; have hx3 := HX1.out.keep hb3; obtain ⟨z0, v0, z1, v1, z2, v2, z3, v3, z4, v4, z5, v5, z6, v6, z7, v7⟩ := cf8 hx3; have l3 := hx3.1; have HX3 := Lib.hid hx3; clear hx3)
        refine bodyPost_ret (ret_cell1 rfl _ _ ⟨w.heap.size + 1, 0, none⟩ _ rfl (load_par8 _ _ _ _ _ _ _ _ _ _ (box_set8 _ _ _ _ _ _ _ _ HX3.out))) rfl ?_
        exact ⟨_, _, rfl, fun W _ => RS.nil _ _ rfl rfl, below_set8 _ _ _ _ _ _ _ _ _ (up HB1.out hb3) (by omega)⟩
  · rw [show sigS ⟨st, utf, pr, fi, pp, it, tx, bad⟩ b = ⟨st, utf, pr, fi, pp, it ++ bs1 b, tx, bad⟩ by unfold sigS; rw [if_neg hs]]
    unfold cS
    dsimp only at *
    have hbad : bad = false := by cases bad <;> simp_all
    subst hbad
    have e2 : ((it.size : Int) == 2) = false := by simp; omega
    have hlen : ¬ 9223372036854775807 < it.size + 1 := by omega
    have hcv := str1 ((w.alloc (.cells #[.int .i64 st, .slice au nu cu, .int .u8 (pr.toNat : Int), .int .u8 (fi.toNat : Int), .slice aq nq cq, .string it, .string tx, .bool false] 25)).alloc (.cells #[.int .i64 0, .slice none 0 0, .int .u8 0, .int .u8 0, .slice none 0 0, .string ⟨#[]⟩, .string ⟨#[]⟩, .bool false] 25)) b 5
    rw [World.size_alloc, World.size_alloc] at hcv
    have hsz : (bs1 b).size = 1 := rfl
    generalize bs1 b = B at hcv hsz ⊢
    go_enter Tryz.func74, Tryz.ntmps74
    go_wp2
    have hb3 : Below w.heap.size w (((w.alloc (.cells #[.int .i64 st, .slice au nu cu, .int .u8 (pr.toNat : Int), .int .u8 (fi.toNat : Int), .slice aq nq cq, .string (it ++ B), .string tx, .bool false] 25)).alloc (.cells #[.int .i64 st, .slice au nu cu, .int .u8 (pr.toNat : Int), .int .u8 (fi.toNat : Int), .slice aq nq cq, .string (it ++ B), .string tx, .bool false] 25)).alloc (.cells #[.int .u8 (b.toNat : Int)] 5)) := up (up (below_box _ _) (below_box _ _)) (below_box _ _)
    have hbx := (Box.new (w.alloc (.cells #[.int .i64 st, .slice au nu cu, .int .u8 (pr.toNat : Int), .int .u8 (fi.toNat : Int), .slice aq nq cq, .string (it ++ B), .string tx, .bool false] 25)) #[.int .i64 st, .slice au nu cu, .int .u8 (pr.toNat : Int), .int .u8 (fi.toNat : Int), .slice aq nq cq, .string (it ++ B), .string tx, .bool false] 25).alloc (.cells #[.int .u8 (b.toNat : Int)] 5)
    rw [World.size_alloc] at hbx
    refine bodyPost_ret (ret_cell1 rfl _ _ ⟨w.heap.size + 1, 0, none⟩ _ rfl (load_par8 _ _ _ _ _ _ _ _ _ _ hbx)) rfl ?_
    exact ⟨_, _, rfl, fun W hW => HRS.out.keepP hW.1, hb3⟩
set_option maxRecDepth 100000 in
set_option maxHeartbeats 8000000 in
theorem escape_any (b : UInt8) (w0 w : World) : Calls Tryz.prog 73 #[.int .u8 (b.toNat : Int)] w (Ret2 (escS b) w0 w) := by
  have hx1 := Box.new w #[.int .i64 0, .slice none 0 0, .int .u8 0, .int .u8 0, .slice none 0 0, .string ⟨#[]⟩, .string ⟨#[]⟩, .bool false] 25
  have hb1 := below_box w (.cells #[.int .i64 0, .slice none 0 0, .int .u8 0, .int .u8 0, .slice none 0 0, .string ⟨#[]⟩, .string ⟨#[]⟩, .bool false] 25)
  have HX1 := Lib.hid hx1
  have HB1 := Lib.hid hb1
  clear hx1 hb1
  have hb := b.toNat_lt
  by_cases h91 : b.toNat = 91
  · rw [show escS b = (begS 3, []) by unfold escS; rw [if_pos h91]]
    have d91 : ((b.toNat : Int) == 91) = true := by simp; omega
    go_enter Tryz.func73, Tryz.ntmps73
    go_wp2_with (go_at_call 52; refine (begin_any _ _).mono ?_; rintro e w3 ⟨rfl, hb3⟩; have hx3 := HX1.out.keep hb3; obtain ⟨z0, v0, z1, v1, z2, v2, z3, v3, z4, v4, z5, v5, z6, v6, z7, v7⟩ := cf8 hx3; have l3 := hx3.1; have HX3 := Lib.hid hx3; clear hx3)
    refine bodyPost_ret (ret_cell rfl _ _ ⟨w.heap.size, 0, none⟩ _ rfl (load_par8 _ _ _ _ _ _ _ _ _ _ (box_set8 _ _ _ _ _ _ _ _ HX3.out))) rfl ?_
    exact ⟨_, _, _, rfl, fun W _ => ⟨RS.nil _ _ rfl rfl, RV.nil _⟩, below_set8 _ _ _ _ _ _ _ _ _ (up HB1.out hb3) (Nat.le_refl _)⟩
  by_cases h93 : b.toNat = 93
  · rw [show escS b = (begS 6, []) by unfold escS; rw [if_neg h91, if_pos h93]]
    have d91 : ((b.toNat : Int) == 91) = false := by simp; omega
    have d93 : ((b.toNat : Int) == 93) = true := by simp; omega
    go_enter Tryz.func73, Tryz.ntmps73
    go_wp2_with (go_at_call 52; refine (begin_any _ _).mono ?_; rintro e w3 ⟨rfl, hb3⟩; have hx3 := HX1.out.keep hb3; obtain ⟨z0, v0, z1, v1, z2, v2, z3, v3, z4, v4, z5, v5, z6, v6, z7, v7⟩ := cf8 hx3; have l3 := hx3.1; have HX3 := Lib.hid hx3; clear hx3)
    refine bodyPost_ret (ret_cell rfl _ _ ⟨w.heap.size, 0, none⟩ _ rfl (load_par8 _ _ _ _ _ _ _ _ _ _ (box_set8 _ _ _ _ _ _ _ _ HX3.out))) rfl ?_
    exact ⟨_, _, _, rfl, fun W _ => ⟨RS.nil _ _ rfl rfl, RV.nil _⟩, below_set8 _ _ _ _ _ _ _ _ _ (up HB1.out hb3) (Nat.le_refl _)⟩
  by_cases h80 : b.toNat = 80
  · rw [show escS b = (begS 8, []) by unfold escS; rw [if_neg h91, if_neg h93, if_pos h80]]
    have d91 : ((b.toNat : Int) == 91) = false := by simp; omega
    have d93 : ((b.toNat : Int) == 93) = false := by simp; omega
    have d80 : ((b.toNat : Int) == 80) = true := by simp; omega
    go_enter Tryz.func73, Tryz.ntmps73
    go_wp2_with (go_at_call 52; refine (begin_any _ _).mono ?_; rintro e w3 ⟨rfl, hb3⟩; have hx3 := HX1.out.keep hb3; obtain ⟨z0, v0, z1, v1, z2, v2, z3, v3, z4, v4, z5, v5, z6, v6, z7, v7⟩ := cf8 hx3; have l3 := hx3.1; have HX3 := Lib.hid hx3; clear hx3)
    refine bodyPost_ret (ret_cell rfl _ _ ⟨w.heap.size, 0, none⟩ _ rfl (load_par8 _ _ _ _ _ _ _ _ _ _ (box_set8 _ _ _ _ _ _ _ _ HX3.out))) rfl ?_
    exact ⟨_, _, _, rfl, fun W _ => ⟨RS.nil _ _ rfl rfl, RV.nil _⟩, below_set8 _ _ _ _ _ _ _ _ _ (up HB1.out hb3) (Nat.le_refl _)⟩
  by_cases hx : b.toNat = 88 ∨ b.toNat = 94 ∨ b.toNat = 95
  · rw [show escS b = (begS 13, []) by unfold escS; rw [if_neg h91, if_neg h93, if_neg h80, if_pos hx]]
    have d91 : ((b.toNat : Int) == 91) = false := by simp; omega
    have d93 : ((b.toNat : Int) == 93) = false := by simp; omega
    have d80 : ((b.toNat : Int) == 80) = false := by simp; omega
    rcases hx with h | h | h
    · have d88 : ((b.toNat : Int) == 88) = true := by simp; omega
      go_enter Tryz.func73, Tryz.ntmps73
      go_wp2_with (go_at_call 52; refine (begin_any _ _).mono ?_; rintro e w3 ⟨rfl, hb3⟩; have hx3 := HX1.out.keep hb3; obtain ⟨z0, v0, z1, v1, z2, v2, z3, v3, z4, v4, z5, v5, z6, v6, z7, v7⟩ := cf8 hx3; have l3 := hx3.1; have HX3 := Lib.hid hx3; clear hx3)
      refine bodyPost_ret (ret_cell rfl _ _ ⟨w.heap.size, 0, none⟩ _ rfl (load_par8 _ _ _ _ _ _ _ _ _ _ (box_set8 _ _ _ _ _ _ _ _ HX3.out))) rfl ?_
      exact ⟨_, _, _, rfl, fun W _ => ⟨RS.nil _ _ rfl rfl, RV.nil _⟩, below_set8 _ _ _ _ _ _ _ _ _ (up HB1.out hb3) (Nat.le_refl _)⟩
    · have d94 : ((b.toNat : Int) == 94) = true := by simp; omega
      have d88 : ((b.toNat : Int) == 88) = false := by simp; omega
      go_enter Tryz.func73, Tryz.ntmps73
      go_wp2_with (go_at_call 52; refine (begin_any _ _).mono ?_; rintro e w3 ⟨rfl, hb3⟩; have hx3 := HX1.out.keep hb3; obtain ⟨z0, v0, z1, v1, z2, v2, z3, v3, z4, v4, z5, v5, z6, v6, z7, v7⟩ := cf8 hx3; have l3 := hx3.1; have HX3 := Lib.hid hx3; clear hx3)
      refine bodyPost_ret (ret_cell rfl _ _ ⟨w.heap.size, 0, none⟩ _ rfl (load_par8 _ _ _ _ _ _ _ _ _ _ (box_set8 _ _ _ _ _ _ _ _ HX3.out))) rfl ?_
      exact ⟨_, _, _, rfl, fun W _ => ⟨RS.nil _ _ rfl rfl, RV.nil _⟩, below_set8 _ _ _ _ _ _ _ _ _ (up HB1.out hb3) (Nat.le_refl _)⟩
    · have d95 : ((b.toNat : Int) == 95) = true := by simp; omega
      have d88 : ((b.toNat : Int) == 88) = false := by simp; omega
      have d94 : ((b.toNat : Int) == 94) = false := by simp; omega
      go_enter Tryz.func73, Tryz.ntmps73
      go_wp2_with (go_at_call 52; refine (begin_any _ _).mono ?_; rintro e w3 ⟨rfl, hb3⟩; have hx3 := HX1.out.keep hb3; obtain ⟨z0, v0, z1, v1, z2, v2, z3, v3, z4, v4, z5, v5, z6, v6, z7, v7⟩ := cf8 hx3; have l3 := hx3.1; have HX3 := Lib.hid hx3; clear hx3)
      refine bodyPost_ret (ret_cell rfl _ _ ⟨w.heap.size, 0, none⟩ _ rfl (load_par8 _ _ _ _ _ _ _ _ _ _ (box_set8 _ _ _ _ _ _ _ _ HX3.out))) rfl ?_
      exact ⟨_, _, _, rfl, fun W _ => ⟨RS.nil _ _ rfl rfl, RV.nil _⟩, below_set8 _ _ _ _ _ _ _ _ _ (up HB1.out hb3) (Nat.le_refl _)⟩
  by_cases h47 : b.toNat ≤ 47
  · rw [show escS b = ({ begS 2 with it := bs1 b }, []) by unfold escS; rw [if_neg h91, if_neg h93, if_neg h80, if_neg hx, if_pos h47]]
    have d91 : ((b.toNat : Int) == 91) = false := by simp; omega
    have d93 : ((b.toNat : Int) == 93) = false := by simp; omega
    have d80 : ((b.toNat : Int) == 80) = false := by simp; omega
    have d88 : ((b.toNat : Int) == 88) = false := by simp; omega
    have d94 : ((b.toNat : Int) == 94) = false := by simp; omega
    have d95 : ((b.toNat : Int) == 95) = false := by simp; omega
    have d47 : decide ((b.toNat : Int) ≤ 47) = true := decide_eq_true (by omega)
    have hcv := str1 (w.alloc (.cells #[.int .i64 0, .slice none 0 0, .int .u8 0, .int .u8 0, .slice none 0 0, .string ⟨#[]⟩, .string ⟨#[]⟩, .bool false] 25)) b 5
    rw [World.size_alloc] at hcv
    generalize bs1 b = B at hcv ⊢
    go_enter Tryz.func73, Tryz.ntmps73
    go_wp2
    have hbx := (Box.new w #[.int .i64 2, .slice none 0 0, .int .u8 0, .int .u8 0, .slice none 0 0, .string B, .string ⟨#[]⟩, .bool false] 25).alloc (.cells #[.int .u8 (b.toNat : Int)] 5)
    refine bodyPost_ret (ret_cell rfl _ _ ⟨w.heap.size, 0, none⟩ _ rfl (load_par8 _ _ _ _ _ _ _ _ _ _ hbx)) rfl ?_
    exact ⟨_, _, _, rfl, fun W _ => ⟨RS.nil _ _ rfl rfl, RV.nil _⟩, up (below_box _ _) (below_box _ _)⟩
  · rw [show escS b = (begS 0, [esE nos b]) by unfold escS; rw [if_neg h91, if_neg h93, if_neg h80, if_neg hx, if_neg h47]]
    have d91 : ((b.toNat : Int) == 91) = false := by simp; omega
    have d93 : ((b.toNat : Int) == 93) = false := by simp; omega
    have d80 : ((b.toNat : Int) == 80) = false := by simp; omega
    have d88 : ((b.toNat : Int) == 88) = false := by simp; omega
    have d94 : ((b.toNat : Int) == 94) = false := by simp; omega
    have d95 : ((b.toNat : Int) == 95) = false := by simp; omega
    have d47 : decide ((b.toNat : Int) ≤ 47) = false := decide_eq_false (by omega)
    go_enter Tryz.func73, Tryz.ntmps73
    go_wp2_with (go_at_call 52; refine (begin_any _ _).mono ?_; rintro e w3 ⟨rfl, hb3⟩; have hx3 := HX1.out.keep hb3; obtain ⟨z0, v0, z1, v1, z2, v2, z3, v3, z4, v4, z5, v5, z6, v6, z7, v7⟩ := cf8 hx3; have l3 := hx3.1; have HX3 := Lib.hid hx3; clear hx3)
    have b8 := box_set8 (.int .i64 0) (.slice none 0 0) (.int .u8 0) (.int .u8 0) (.slice none 0 0) (.string ⟨#[]⟩) (.string ⟨#[]⟩) (.bool false) HX3.out
    have z8 := size_set8 w3 w.heap.size (.int .i64 0) (.slice none 0 0) (.int .u8 0) (.int .u8 0) (.slice none 0 0) (.string ⟨#[]⟩) (.string ⟨#[]⟩) (.bool false)
    have d8 := below_set8 w.heap.size (.int .i64 0) (.slice none 0 0) (.int .u8 0) (.int .u8 0) (.slice none 0 0) (.string ⟨#[]⟩) (.string ⟨#[]⟩) (.bool false) (up HB1.out hb3) (Nat.le_refl _)
    generalize ((((((((w3.setCell ⟨w.heap.size, 0, none⟩ (.int .i64 0)).setCell ⟨w.heap.size, 1, none⟩ (.slice none 0 0)).setCell ⟨w.heap.size, 2, none⟩ (.int .u8 0)).setCell ⟨w.heap.size, 3, none⟩ (.int .u8 0)).setCell ⟨w.heap.size, 4, none⟩ (.slice none 0 0)).setCell ⟨w.heap.size, 5, none⟩ (.string ⟨#[]⟩)).setCell ⟨w.heap.size, 6, none⟩ (.string ⟨#[]⟩)).setCell ⟨w.heap.size, 7, none⟩ (.bool false)) = W8 at b8 z8 d8 ⊢
    rw [← z8]
    refine bodyPost_ret (ret_cell rfl _ _ ⟨w.heap.size, 0, none⟩ _ rfl (load_par8 _ _ _ _ _ _ _ _ _ _ (b8.alloc _))) rfl ?_
    exact ⟨_, _, _, rfl, fun W hW => ⟨RS.nil _ _ rfl rfl, RV.mk1 ((RdE.one _ ⟨esE nos b, none, 0, 0⟩ _).at (by simp) (hW.2 _ d8.size (by simp))) (RL.nil _)⟩, d8.alloc d8.size _⟩

end Go.Proofs.YtmboekpomjgnnaaGreatDoor.Sta
