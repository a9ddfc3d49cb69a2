/-
  ParE
-/
import Derived.Test.YteepfecplabinaaDoorP21
namespace Go.Proofs.YteepfecplabinaaDoor.Par
open Go.RowKit Utf

theorem RL.none {w : World} {v : Value} {l : List (List Int)} (h : RL w v l) : ∃ A c, v = .slice A l.length c := by
  obtain ⟨A, c, vs, rfl, -⟩ := h
  exact ⟨A, c, rfl⟩
theorem Hi.at {B b o n c : Nat} (h : B ≤ b) : Hi B (.slice (some ⟨b, o, none⟩) n c) := fun _ _ _ e => by cases e; exact h
theorem unset_anyP (P : Value → Prop) (w : World) (hF : Fresh P w.heap.size) : Calls Tryd.prog 46 #[] w fun e w' => ∃ v, e = .returned v ∧ (RL w' v [[-1]] ∧ PL P w' v) ∧ Below w.heap.size w w' := by
  have HF := Lib.hid hF
  clear hF
  go_enter Tryd.func46, Tryd.ntmps46
  go_wp2
  go_ret
  have h1 := RI.lit w [-1] 1 rfl (by decide) 3
  have h2 := RL.lit (w.alloc (.cells #[.int .i64 (-1)] 3)) [.slice (some ⟨w.heap.size, 0, none⟩) 1 1] [[-1]] 1 rfl rfl (by decide) 41 (fun j x p hx hp => by
    cases j with
    | zero => simp at hx hp; subst hx; subst hp; exact h1
    | succ j => simp at hx)
  rw [World.size_alloc] at h2
  refine ⟨_, rfl, ⟨h2, fun A n c j x hv hj hx => ?_⟩, up (below_box _ _) (below_box _ _)⟩
  cases hv
  obtain rfl : j = 0 := by omega
  have h3 := cell_one_new (w.alloc (.cells #[.int .i64 (-1)] 3)) (.slice (some ⟨w.heap.size, 0, none⟩) 1 1) 41 0 _ rfl
  rw [World.size_alloc] at h3
  rw [h3] at hx
  cases hx
  exact HF.out _ (Hi.at (Nat.le_refl _))
set_option maxRecDepth 100000 in
set_option maxHeartbeats 1000000 in
theorem addDigit_any (P : Value → Prop) (v : Value) (ls : List (List Int)) (ps : List Int) (z d : Int) (w : World) (h : RL w v (ls ++ [ps ++ [z]])) (hP : PL P w v) (hF : Fresh P w.heap.size) (hl : ls.length ≤ 1000000) (hl2 : ps.length ≤ 1000000) (hn : -1 ≤ z) (hn2 : z ≤ 9999) (hd : 0 ≤ d) (hd2 : d ≤ 9) :
    Calls Tryd.prog 69 #[v, .int .i64 d] w fun e w' => ∃ v', e = .returned (.tuple #[v', .int .i64 0]) ∧ ROP P w.heap.size w' v' (ls ++ [ps ++ [digI z d]]) ∧ Below w.heap.size w w' := by
  have hb1 := below_box w (.cells #[.int .i64 d] 3)
  have hc : (w.alloc (.cells #[.int .i64 d] 3)).cell? ⟨w.heap.size, 0, none⟩ = some (.int .i64 d) := cell_one_new w (.int .i64 d) 3 0 _ rfl
  have HC := Lib.hid (changeD_ok P v ls (ps ++ [z]) (ps ++ [digI z d]) w.heap.size _ (h.keep hb1) (hP.keep h hb1) (hF.mono hb1.size) hl (fun x hx => digitP_any x ps z d _ _ hx hl2 hn hn2 hd hd2 hc))
  have HB := Lib.hid hb1
  obtain ⟨A, c, rfl⟩ := h.none
  obtain ⟨n, hn'⟩ : ∃ n, n = (ls ++ [ps ++ [z]]).length := ⟨_, rfl⟩
  rw [← hn'] at HC ⊢
  clear hn' h hc hb1
  go_enter Tryd.func69, Tryd.ntmps69
  go_wp2_with (go_at_call 100; refine HC.out.mono ?_; rintro e w1 ⟨v1, rfl, h1, hb2⟩)
  go_ret2
  exact ⟨v1, rfl, h1.mono (by simp), up HB.out hb2⟩
set_option maxRecDepth 100000 in
set_option maxHeartbeats 1000000 in
theorem addPart_room (P : Value → Prop) (v : Value) (ls : List (List Int)) (p : List Int) (w : World) (h : RL w v (ls ++ [p])) (hP : PL P w v) (hF : Fresh P w.heap.size) (hl : ls.length ≤ 1000000) (hm : (p.length : Int) < 6) :
    Calls Tryd.prog 70 #[v] w fun e w' => ∃ v', e = .returned (.tuple #[v', .int .i64 0]) ∧ ROP P w.heap.size w' v' (ls ++ [p ++ [-1]]) ∧ Below w.heap.size w w' := by
  have HC := Lib.hid (changeA_ok P v ls p (p ++ [-1]) w h hP hF hl (fun x hx => partP_room x p _ hx (by omega) hm))
  obtain ⟨A, c, rfl⟩ := h.none
  obtain ⟨n, hn'⟩ : ∃ n, n = (ls ++ [p]).length := ⟨_, rfl⟩
  rw [← hn'] at HC ⊢
  clear hn' h
  go_enter Tryd.func70, Tryd.ntmps70
  go_wp2_with (go_at_call 100; refine HC.out.mono ?_; rintro e w1 ⟨v1, rfl, h1, hb2⟩)
  go_ret2
  exact ⟨v1, rfl, h1, hb2⟩
set_option maxRecDepth 100000 in
set_option maxHeartbeats 1000000 in
theorem addPart_full (v : Value) (ls : List (List Int)) (p : List Int) (w : World) (h : RL w v (ls ++ [p])) (hl : ls.length ≤ 1000000) (hm : (6 : Int) ≤ (p.length : Int)) :
    Calls Tryd.prog 70 #[v] w fun e w' => e = .returned (.tuple #[.slice none 0 0, .int .i64 3]) ∧ Below w.heap.size w w' := by
  have HC := Lib.hid (changeA_bad v ls p 3 w h hl (by decide) (fun x hx => partP_full x p _ hx hm))
  obtain ⟨A, c, rfl⟩ := h.none
  obtain ⟨n, hn'⟩ : ∃ n, n = (ls ++ [p]).length := ⟨_, rfl⟩
  rw [← hn'] at HC ⊢
  clear hn' h
  go_enter Tryd.func70, Tryd.ntmps70
  go_wp2_with (go_at_call 100; refine HC.out.mono ?_; rintro e w1 ⟨rfl, hb2⟩)
  go_ret2
  exact ⟨rfl, hb2⟩
set_option maxRecDepth 100000 in
set_option maxHeartbeats 2000000 in
theorem step_bad (P : Value → Prop) (v : Value) (l : List (List Int)) (c : Nat) (w : World) (h : RL w v l) (hP : PL P w v) (hF : Fresh P w.heap.size) (hl : l.length ≤ 1000000) (hp : ∀ p ∈ l, p.length ≤ 1000000) (he : l ≠ []) (hb : chkV l = 150) :
    Calls Tryd.prog 42 #[v, .int .u8 (c : Int)] w fun e w' => ∃ v', e = .returned (.tuple #[v', .int .i64 150]) ∧ ROP P w.heap.size w' v' [] ∧ Below w.heap.size w w' := by
  have HK := Lib.hid (check_any v l w h hl hp)
  rw [hb] at HK
  have HL := Lib.hid h
  have HP := Lib.hid hP
  have HFr := Lib.hid hF
  clear hP hF
  have hn0 : 0 < l.length := List.length_pos_iff.2 he
  obtain ⟨A, cc, us, rfl, _, _, _, _⟩ := h
  obtain ⟨n, hn'⟩ : ∃ n, n = l.length := ⟨_, rfl⟩
  rw [← hn'] at hn0 HK HL HP ⊢
  have Hn := Lib.hid hn'
  clear hn'
  have d0 : decide ((n : Int) = 0) = false := by simp; omega
  clear hl hp hb
  go_enter Tryd.func42, Tryd.ntmps42
  go_wp2_with (first
    | (go_at_call 23; refine HK.out.mono ?_; rintro e w1 ⟨rfl, hb1⟩))
  go_ret2
  exact ⟨_, rfl, ROP.nil _ _ _, hb1⟩
set_option maxRecDepth 100000 in
set_option maxHeartbeats 2000000 in
theorem step_digit (P : Value → Prop) (v : Value) (l : List (List Int)) (c : Nat) (w : World) (h : RL w v l) (hP : PL P w v) (hF : Fresh P w.heap.size) (hl : l.length ≤ 1000000) (hp : ∀ p ∈ l, p.length ≤ 1000000) (he : l ≠ []) (hc : c < 256) (hb : chkV l = 0) (ls : List (List Int)) (ps : List Int) (z : Int) (ho : l = ls ++ [ps ++ [z]]) (hls : ls.length ≤ 1000000) (hl2 : ps.length ≤ 1000000) (hn : -1 ≤ z) (hn2 : z ≤ 9999) (k1 : (48 : Int) ≤ (c : Int)) (k2 : (c : Int) ≤ 57) :
    Calls Tryd.prog 42 #[v, .int .u8 (c : Int)] w fun e w' => ∃ v', e = .returned (.tuple #[v', .int .i64 0]) ∧ ROP P w.heap.size w' v' (ls ++ [ps ++ [digI z ((c : Int) - 48)]]) ∧ Below w.heap.size w w' := by
  have HK := Lib.hid (check_any v l w h hl hp)
  rw [hb] at HK
  have HL := Lib.hid h
  have HP := Lib.hid hP
  have HFr := Lib.hid hF
  clear hP hF
  have hn0 : 0 < l.length := List.length_pos_iff.2 he
  obtain ⟨A, cc, us, rfl, _, _, _, _⟩ := h
  obtain ⟨n, hn'⟩ : ∃ n, n = l.length := ⟨_, rfl⟩
  rw [← hn'] at hn0 HK HL HP ⊢
  have Hn := Lib.hid hn'
  clear hn'
  have d0 : decide ((n : Int) = 0) = false := by simp; omega
  clear hl hp hb
  have j1 : decide ((48 : Int) ≤ (c : Int)) = true := by simp; omega
  have j2 : decide ((c : Int) ≤ 57) = true := by simp; omega
  go_enter Tryd.func42, Tryd.ntmps42
  go_wp2_with (first
    | (go_at_call 23; refine HK.out.mono ?_; rintro e w1 ⟨rfl, hb1⟩)
    | (go_at_call 69; refine (addDigit_any P _ ls ps z ((c : Int) - 48) _ (ho ▸ (HL.out.keep hb1)) (HP.out.keep HL.out hb1) (HFr.out.mono hb1.size) hls hl2 hn hn2 (by omega) (by omega)).mono ?_; rintro e w3 ⟨v3, rfl, h3, hb3⟩))
  go_ret2
  exact ⟨v3, rfl, h3.mono (hb1.size), (up hb1 hb3)⟩
set_option maxRecDepth 100000 in
set_option maxHeartbeats 2000000 in
theorem step_digitE (P : Value → Prop) (v : Value) (l : List (List Int)) (c : Nat) (w : World) (h : RL w v l) (hP : PL P w v) (hF : Fresh P w.heap.size) (hl : l.length ≤ 1000000) (hp : ∀ p ∈ l, p.length ≤ 1000000) (he : l = []) (hc : c < 256) (hb : chkV l = 0) (ls : List (List Int)) (ps : List Int) (z : Int) (ho : ([[-1]] : List (List Int)) = ls ++ [ps ++ [z]]) (hls : ls.length ≤ 1000000) (hl2 : ps.length ≤ 1000000) (hn : -1 ≤ z) (hn2 : z ≤ 9999) (k1 : (48 : Int) ≤ (c : Int)) (k2 : (c : Int) ≤ 57) :
    Calls Tryd.prog 42 #[v, .int .u8 (c : Int)] w fun e w' => ∃ v', e = .returned (.tuple #[v', .int .i64 0]) ∧ ROP P w.heap.size w' v' (ls ++ [ps ++ [digI z ((c : Int) - 48)]]) ∧ Below w.heap.size w w' := by
  have HK := Lib.hid (check_any v l w h hl hp)
  rw [hb] at HK
  have HL := Lib.hid h
  have HP := Lib.hid hP
  have HFr := Lib.hid hF
  clear hP hF
  subst he
  obtain ⟨A, cc, us, rfl, _, _, _, _⟩ := h
  rw [show ([] : List (List Int)).length = 0 from rfl] at HK HL HP ⊢
  clear hl hp hb
  have j1 : decide ((48 : Int) ≤ (c : Int)) = true := by simp; omega
  have j2 : decide ((c : Int) ≤ 57) = true := by simp; omega
  go_enter Tryd.func42, Tryd.ntmps42
  go_wp2_with (first
    | (go_at_call 23; refine HK.out.mono ?_; rintro e w1 ⟨rfl, hb1⟩)
    | (go_at_call 46; refine (unset_anyP P _ (HFr.out.mono hb1.size)).mono ?_; rintro e w2 ⟨v2, rfl, ⟨hr2, hp2⟩, hb2⟩; have HP2 := Lib.hid hp2; clear hp2; obtain ⟨A2, c2, us2, rfl, hz2⟩ := hr2; have HR2 := Lib.hid (show RL w2 (.slice A2 _ c2) [[-1]] from ⟨A2, c2, us2, rfl, hz2⟩); clear hz2; rw [show ([[-1]] : List (List Int)).length = 1 from rfl] at HR2 HP2 ⊢)
    | (go_at_call 69; refine (addDigit_any P _ ls ps z ((c : Int) - 48) _ (ho ▸ HR2.out) HP2.out (HFr.out.mono (Nat.le_trans hb1.size hb2.size)) hls hl2 hn hn2 (by omega) (by omega)).mono ?_; rintro e w3 ⟨v3, rfl, h3, hb3⟩))
  go_ret2
  exact ⟨v3, rfl, h3.mono (Nat.le_trans hb1.size hb2.size), (up hb1 (up hb2 hb3))⟩
set_option maxRecDepth 100000 in
set_option maxHeartbeats 2000000 in
theorem step_colonR (P : Value → Prop) (v : Value) (l : List (List Int)) (c : Nat) (w : World) (h : RL w v l) (hP : PL P w v) (hF : Fresh P w.heap.size) (hl : l.length ≤ 1000000) (hp : ∀ p ∈ l, p.length ≤ 1000000) (he : l ≠ []) (hc : c < 256) (hb : chkV l = 0) (ls : List (List Int)) (p : List Int) (ho : l = ls ++ [p]) (hls : ls.length ≤ 1000000) (hm : (p.length : Int) < 6) (k1 : c = 58) :
    Calls Tryd.prog 42 #[v, .int .u8 (c : Int)] w fun e w' => ∃ v', e = .returned (.tuple #[v', .int .i64 0]) ∧ ROP P w.heap.size w' v' (ls ++ [p ++ [-1]]) ∧ Below w.heap.size w w' := by
  have HK := Lib.hid (check_any v l w h hl hp)
  rw [hb] at HK
  have HL := Lib.hid h
  have HP := Lib.hid hP
  have HFr := Lib.hid hF
  clear hP hF
  have hn0 : 0 < l.length := List.length_pos_iff.2 he
  obtain ⟨A, cc, us, rfl, _, _, _, _⟩ := h
  obtain ⟨n, hn'⟩ : ∃ n, n = l.length := ⟨_, rfl⟩
  rw [← hn'] at hn0 HK HL HP ⊢
  have Hn := Lib.hid hn'
  clear hn'
  have d0 : decide ((n : Int) = 0) = false := by simp; omega
  clear hl hp hb
  subst k1
  go_enter Tryd.func42, Tryd.ntmps42
  go_wp2_with (first
    | (go_at_call 23; refine HK.out.mono ?_; rintro e w1 ⟨rfl, hb1⟩)
    | (go_at_call 70; refine (addPart_room P _ ls p _ (ho ▸ (HL.out.keep hb1)) (HP.out.keep HL.out hb1) (HFr.out.mono hb1.size) hls hm).mono ?_; rintro e w3 ⟨v3, rfl, h3, hb3⟩))
  go_ret2
  exact ⟨v3, rfl, h3.mono (hb1.size), (up hb1 hb3)⟩
set_option maxRecDepth 100000 in
set_option maxHeartbeats 2000000 in
theorem step_colonRE (P : Value → Prop) (v : Value) (l : List (List Int)) (c : Nat) (w : World) (h : RL w v l) (hP : PL P w v) (hF : Fresh P w.heap.size) (hl : l.length ≤ 1000000) (hp : ∀ p ∈ l, p.length ≤ 1000000) (he : l = []) (hc : c < 256) (hb : chkV l = 0) (ls : List (List Int)) (p : List Int) (ho : ([[-1]] : List (List Int)) = ls ++ [p]) (hls : ls.length ≤ 1000000) (hm : (p.length : Int) < 6) (k1 : c = 58) :
    Calls Tryd.prog 42 #[v, .int .u8 (c : Int)] w fun e w' => ∃ v', e = .returned (.tuple #[v', .int .i64 0]) ∧ ROP P w.heap.size w' v' (ls ++ [p ++ [-1]]) ∧ Below w.heap.size w w' := by
  have HK := Lib.hid (check_any v l w h hl hp)
  rw [hb] at HK
  have HL := Lib.hid h
  have HP := Lib.hid hP
  have HFr := Lib.hid hF
  clear hP hF
  subst he
  obtain ⟨A, cc, us, rfl, _, _, _, _⟩ := h
  rw [show ([] : List (List Int)).length = 0 from rfl] at HK HL HP ⊢
  clear hl hp hb
  subst k1
  go_enter Tryd.func42, Tryd.ntmps42
  go_wp2_with (first
    | (go_at_call 23; refine HK.out.mono ?_; rintro e w1 ⟨rfl, hb1⟩)
    | (go_at_call 46; refine (unset_anyP P _ (HFr.out.mono hb1.size)).mono ?_; rintro e w2 ⟨v2, rfl, ⟨hr2, hp2⟩, hb2⟩; have HP2 := Lib.hid hp2; clear hp2; obtain ⟨A2, c2, us2, rfl, hz2⟩ := hr2; have HR2 := Lib.hid (show RL w2 (.slice A2 _ c2) [[-1]] from ⟨A2, c2, us2, rfl, hz2⟩); clear hz2; rw [show ([[-1]] : List (List Int)).length = 1 from rfl] at HR2 HP2 ⊢)
    | (go_at_call 70; refine (addPart_room P _ ls p _ (ho ▸ HR2.out) HP2.out (HFr.out.mono (Nat.le_trans hb1.size hb2.size)) hls hm).mono ?_; rintro e w3 ⟨v3, rfl, h3, hb3⟩))
  go_ret2
  exact ⟨v3, rfl, h3.mono (Nat.le_trans hb1.size hb2.size), (up hb1 (up hb2 hb3))⟩
set_option maxRecDepth 100000 in
set_option maxHeartbeats 2000000 in
theorem step_colonF (P : Value → Prop) (v : Value) (l : List (List Int)) (c : Nat) (w : World) (h : RL w v l) (hP : PL P w v) (hF : Fresh P w.heap.size) (hl : l.length ≤ 1000000) (hp : ∀ p ∈ l, p.length ≤ 1000000) (he : l ≠ []) (hc : c < 256) (hb : chkV l = 0) (ls : List (List Int)) (p : List Int) (ho : l = ls ++ [p]) (hls : ls.length ≤ 1000000) (hm : (6 : Int) ≤ (p.length : Int)) (k1 : c = 58) :
    Calls Tryd.prog 42 #[v, .int .u8 (c : Int)] w fun e w' => ∃ v', e = .returned (.tuple #[v', .int .i64 3]) ∧ ROP P w.heap.size w' v' [] ∧ Below w.heap.size w w' := by
  have HK := Lib.hid (check_any v l w h hl hp)
  rw [hb] at HK
  have HL := Lib.hid h
  have HP := Lib.hid hP
  have HFr := Lib.hid hF
  clear hP hF
  have hn0 : 0 < l.length := List.length_pos_iff.2 he
  obtain ⟨A, cc, us, rfl, _, _, _, _⟩ := h
  obtain ⟨n, hn'⟩ : ∃ n, n = l.length := ⟨_, rfl⟩
  rw [← hn'] at hn0 HK HL HP ⊢
  have Hn := Lib.hid hn'
  clear hn'
  have d0 : decide ((n : Int) = 0) = false := by simp; omega
  clear hl hp hb
  subst k1
  go_enter Tryd.func42, Tryd.ntmps42
  go_wp2_with (first
    | (go_at_call 23; refine HK.out.mono ?_; rintro e w1 ⟨rfl, hb1⟩)
    | (go_at_call 70; refine (addPart_full _ ls p _ (ho ▸ (HL.out.keep hb1)) hls hm).mono ?_; rintro e w3 ⟨rfl, hb3⟩))
  go_ret2
  exact ⟨_, rfl, ROP.nil _ _ _, (up hb1 hb3)⟩
set_option maxRecDepth 100000 in
set_option maxHeartbeats 2000000 in
theorem step_semiR (P : Value → Prop) (v : Value) (l : List (List Int)) (c : Nat) (w : World) (h : RL w v l) (hP : PL P w v) (hF : Fresh P w.heap.size) (hl : l.length ≤ 1000000) (hp : ∀ p ∈ l, p.length ≤ 1000000) (he : l ≠ []) (hc : c < 256) (hb : chkV l = 0) (hm : ((l).length : Int) < 16) (k1 : c = 59) :
    Calls Tryd.prog 42 #[v, .int .u8 (c : Int)] w fun e w' => ∃ v', e = .returned (.tuple #[v', .int .i64 0]) ∧ ROP P w.heap.size w' v' (l ++ [[-1]]) ∧ Below w.heap.size w w' := by
  have HK := Lib.hid (check_any v l w h hl hp)
  rw [hb] at HK
  have HL := Lib.hid h
  have HP := Lib.hid hP
  have HFr := Lib.hid hF
  clear hP hF
  have hn0 : 0 < l.length := List.length_pos_iff.2 he
  obtain ⟨A, cc, us, rfl, _, _, _, _⟩ := h
  obtain ⟨n, hn'⟩ : ∃ n, n = l.length := ⟨_, rfl⟩
  rw [← hn'] at hn0 HK HL HP ⊢
  have Hn := Lib.hid hn'
  clear hn'
  have d0 : decide ((n : Int) = 0) = false := by simp; omega
  clear hl hp hb
  subst k1
  rw [← Hn.out] at hm
  go_enter Tryd.func42, Tryd.ntmps42
  go_wp2_with (first
    | (go_at_call 23; refine HK.out.mono ?_; rintro e w1 ⟨rfl, hb1⟩)
    | (go_at_call 71; refine (addP_room P _ _ l [-1] 16 _ (((HL.out.keep hb1)).keep (below_box w1 (.cells #[.int .i64 (-1)] 3))) (((HP.out.keep HL.out hb1)).keep ((HL.out.keep hb1)) (below_box _ _)) (HFr.out _ (Hi.at (hb1.size))) (RI.lit _ [-1] 1 rfl (by decide) 3) (by rw [← Hn.out]; omega) (by rw [← Hn.out]; exact hm)).mono ?_; rintro e w3 ⟨v3, rfl, h3, hb3⟩))
  go_ret2
  exact ⟨v3, rfl, h3.mono (by have := hb1.size; rw [World.size_alloc]; omega), (up hb1 (up (below_box _ _) hb3))⟩
set_option maxRecDepth 100000 in
set_option maxHeartbeats 2000000 in
theorem step_semiRE (P : Value → Prop) (v : Value) (l : List (List Int)) (c : Nat) (w : World) (h : RL w v l) (hP : PL P w v) (hF : Fresh P w.heap.size) (hl : l.length ≤ 1000000) (hp : ∀ p ∈ l, p.length ≤ 1000000) (he : l = []) (hc : c < 256) (hb : chkV l = 0) (k1 : c = 59) :
    Calls Tryd.prog 42 #[v, .int .u8 (c : Int)] w fun e w' => ∃ v', e = .returned (.tuple #[v', .int .i64 0]) ∧ ROP P w.heap.size w' v' (([[-1]] : List (List Int)) ++ [[-1]]) ∧ Below w.heap.size w w' := by
  have HK := Lib.hid (check_any v l w h hl hp)
  rw [hb] at HK
  have HL := Lib.hid h
  have HP := Lib.hid hP
  have HFr := Lib.hid hF
  clear hP hF
  subst he
  obtain ⟨A, cc, us, rfl, _, _, _, _⟩ := h
  rw [show ([] : List (List Int)).length = 0 from rfl] at HK HL HP ⊢
  clear hl hp hb
  subst k1
  go_enter Tryd.func42, Tryd.ntmps42
  go_wp2_with (first
    | (go_at_call 23; refine HK.out.mono ?_; rintro e w1 ⟨rfl, hb1⟩)
    | (go_at_call 46; refine (unset_anyP P _ (HFr.out.mono hb1.size)).mono ?_; rintro e w2 ⟨v2, rfl, ⟨hr2, hp2⟩, hb2⟩; have HP2 := Lib.hid hp2; clear hp2; obtain ⟨A2, c2, us2, rfl, hz2⟩ := hr2; have HR2 := Lib.hid (show RL w2 (.slice A2 _ c2) [[-1]] from ⟨A2, c2, us2, rfl, hz2⟩); clear hz2; rw [show ([[-1]] : List (List Int)).length = 1 from rfl] at HR2 HP2 ⊢)
    | (go_at_call 71; refine (addP_room P _ _ [[-1]] [-1] 16 _ ((HR2.out).keep (below_box w2 (.cells #[.int .i64 (-1)] 3))) ((HP2.out).keep (HR2.out) (below_box _ _)) (HFr.out _ (Hi.at (Nat.le_trans hb1.size hb2.size))) (RI.lit _ [-1] 1 rfl (by decide) 3) (by decide) (by decide)).mono ?_; rintro e w3 ⟨v3, rfl, h3, hb3⟩))
  go_ret2
  exact ⟨v3, rfl, h3.mono (by have := hb1.size; have := hb2.size; rw [World.size_alloc]; omega), (up hb1 (up hb2 (up (below_box _ _) hb3)))⟩
set_option maxRecDepth 100000 in
set_option maxHeartbeats 2000000 in
theorem step_semiF (P : Value → Prop) (v : Value) (l : List (List Int)) (c : Nat) (w : World) (h : RL w v l) (hP : PL P w v) (hF : Fresh P w.heap.size) (hl : l.length ≤ 1000000) (hp : ∀ p ∈ l, p.length ≤ 1000000) (he : l ≠ []) (hc : c < 256) (hb : chkV l = 0) (hm : (16 : Int) ≤ ((l).length : Int)) (k1 : c = 59) :
    Calls Tryd.prog 42 #[v, .int .u8 (c : Int)] w fun e w' => ∃ v', e = .returned (.tuple #[v', .int .i64 3]) ∧ ROP P w.heap.size w' v' [] ∧ Below w.heap.size w w' := by
  have HK := Lib.hid (check_any v l w h hl hp)
  rw [hb] at HK
  have HL := Lib.hid h
  have HP := Lib.hid hP
  have HFr := Lib.hid hF
  clear hP hF
  have hn0 : 0 < l.length := List.length_pos_iff.2 he
  obtain ⟨A, cc, us, rfl, _, _, _, _⟩ := h
  obtain ⟨n, hn'⟩ : ∃ n, n = l.length := ⟨_, rfl⟩
  rw [← hn'] at hn0 HK HL HP ⊢
  have Hn := Lib.hid hn'
  clear hn'
  have d0 : decide ((n : Int) = 0) = false := by simp; omega
  clear hl hp hb
  subst k1
  rw [← Hn.out] at hm
  go_enter Tryd.func42, Tryd.ntmps42
  go_wp2_with (first
    | (go_at_call 23; refine HK.out.mono ?_; rintro e w1 ⟨rfl, hb1⟩)
    | (go_at_call 71; refine (addP_full _ _ l [-1] 16 _ (((HL.out.keep hb1)).keep (below_box w1 (.cells #[.int .i64 (-1)] 3))) (RI.lit _ [-1] 1 rfl (by decide) 3) (by rw [← Hn.out]; exact hm)).mono ?_; rintro e w3 ⟨rfl, hb3⟩))
  go_ret2
  exact ⟨_, rfl, ROP.nil _ _ _, (up hb1 (up (below_box _ _) hb3))⟩
set_option maxRecDepth 100000 in
set_option maxHeartbeats 2000000 in
theorem step_other (P : Value → Prop) (v : Value) (l : List (List Int)) (c : Nat) (w : World) (h : RL w v l) (hP : PL P w v) (hF : Fresh P w.heap.size) (hl : l.length ≤ 1000000) (hp : ∀ p ∈ l, p.length ≤ 1000000) (he : l ≠ []) (hc : c < 256) (hb : chkV l = 0) (k1 : (c : Int) < 48 ∨ 57 < (c : Int)) (k2 : (c : Int) ≠ 58) (k3 : (c : Int) ≠ 59) :
    Calls Tryd.prog 42 #[v, .int .u8 (c : Int)] w fun e w' => ∃ v', e = .returned (.tuple #[v', .int .i64 6]) ∧ ROP P w.heap.size w' v' [] ∧ Below w.heap.size w w' := by
  have HK := Lib.hid (check_any v l w h hl hp)
  rw [hb] at HK
  have HL := Lib.hid h
  have HP := Lib.hid hP
  have HFr := Lib.hid hF
  clear hP hF
  have hn0 : 0 < l.length := List.length_pos_iff.2 he
  obtain ⟨A, cc, us, rfl, _, _, _, _⟩ := h
  obtain ⟨n, hn'⟩ : ∃ n, n = l.length := ⟨_, rfl⟩
  rw [← hn'] at hn0 HK HL HP ⊢
  have Hn := Lib.hid hn'
  clear hn'
  have d0 : decide ((n : Int) = 0) = false := by simp; omega
  clear hl hp hb
  have j3 : ((c : Int) == 58) = false := by simp; omega
  have j4 : ((c : Int) == 59) = false := by simp; omega
  go_enter Tryd.func42, Tryd.ntmps42
  rcases k1 with k1 | k1
  · have j1 : decide ((48 : Int) ≤ (c : Int)) = false := by simp; omega
    go_wp2_with (first
      | (go_at_call 23; refine HK.out.mono ?_; rintro e w1 ⟨rfl, hb1⟩))
    go_ret2
    exact ⟨_, rfl, ROP.nil _ _ _, hb1⟩
  · have j1 : decide ((48 : Int) ≤ (c : Int)) = true := by simp; omega
    have j2 : decide ((c : Int) ≤ 57) = false := by simp; omega
    go_wp2_with (first
      | (go_at_call 23; refine HK.out.mono ?_; rintro e w1 ⟨rfl, hb1⟩))
    go_ret2
    exact ⟨_, rfl, ROP.nil _ _ _, hb1⟩
set_option maxRecDepth 100000 in
set_option maxHeartbeats 2000000 in
theorem step_otherE (P : Value → Prop) (v : Value) (l : List (List Int)) (c : Nat) (w : World) (h : RL w v l) (hP : PL P w v) (hF : Fresh P w.heap.size) (hl : l.length ≤ 1000000) (hp : ∀ p ∈ l, p.length ≤ 1000000) (he : l = []) (hc : c < 256) (hb : chkV l = 0) (k1 : (c : Int) < 48 ∨ 57 < (c : Int)) (k2 : (c : Int) ≠ 58) (k3 : (c : Int) ≠ 59) :
    Calls Tryd.prog 42 #[v, .int .u8 (c : Int)] w fun e w' => ∃ v', e = .returned (.tuple #[v', .int .i64 6]) ∧ ROP P w.heap.size w' v' [] ∧ Below w.heap.size w w' := by
  have HK := Lib.hid (check_any v l w h hl hp)
  rw [hb] at HK
  have HL := Lib.hid h
  have HP := Lib.hid hP
  have HFr := Lib.hid hF
  clear hP hF
  subst he
  obtain ⟨A, cc, us, rfl, _, _, _, _⟩ := h
  rw [show ([] : List (List Int)).length = 0 from rfl] at HK HL HP ⊢
  clear hl hp hb
  have j3 : ((c : Int) == 58) = false := by simp; omega
  have j4 : ((c : Int) == 59) = false := by simp; omega
  go_enter Tryd.func42, Tryd.ntmps42
  rcases k1 with k1 | k1
  · have j1 : decide ((48 : Int) ≤ (c : Int)) = false := by simp; omega
    go_wp2_with (first
      | (go_at_call 23; refine HK.out.mono ?_; rintro e w1 ⟨rfl, hb1⟩)
      | (go_at_call 46; refine (unset_anyP P _ (HFr.out.mono hb1.size)).mono ?_; rintro e w2 ⟨v2, rfl, ⟨hr2, hp2⟩, hb2⟩; have HP2 := Lib.hid hp2; clear hp2; obtain ⟨A2, c2, us2, rfl, hz2⟩ := hr2; have HR2 := Lib.hid (show RL w2 (.slice A2 _ c2) [[-1]] from ⟨A2, c2, us2, rfl, hz2⟩); clear hz2; rw [show ([[-1]] : List (List Int)).length = 1 from rfl] at HR2 HP2 ⊢))
    go_ret2
    exact ⟨_, rfl, ROP.nil _ _ _, (up hb1 hb2)⟩
  · have j1 : decide ((48 : Int) ≤ (c : Int)) = true := by simp; omega
    have j2 : decide ((c : Int) ≤ 57) = false := by simp; omega
    go_wp2_with (first
      | (go_at_call 23; refine HK.out.mono ?_; rintro e w1 ⟨rfl, hb1⟩)
      | (go_at_call 46; refine (unset_anyP P _ (HFr.out.mono hb1.size)).mono ?_; rintro e w2 ⟨v2, rfl, ⟨hr2, hp2⟩, hb2⟩; have HP2 := Lib.hid hp2; clear hp2; obtain ⟨A2, c2, us2, rfl, hz2⟩ := hr2; have HR2 := Lib.hid (show RL w2 (.slice A2 _ c2) [[-1]] from ⟨A2, c2, us2, rfl, hz2⟩); clear hz2; rw [show ([[-1]] : List (List Int)).length = 1 from rfl] at HR2 HP2 ⊢))
    go_ret2
    exact ⟨_, rfl, ROP.nil _ _ _, (up hb1 hb2)⟩
end Go.Proofs.YteepfecplabinaaDoor.Par
