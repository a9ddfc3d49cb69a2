/-
  ParZ
-/
import Derived.BigRegion
import Derived.Deep.DeepCutAuto
import Derived.Test.YtmboekpomjgnnaaGreatDoorF5
import Derived.Test.YtmboekpomjgnnaaGreatDoorF27
namespace Go.Proofs.YtmboekpomjgnnaaGreatDoor.Par
open Go.RowKit Utf

theorem last_unset (w : World) (B : Nat) (hB : B ≤ w.heap.size) : ∃ x, LastP ((w.alloc (.cells #[.int .i64 (-1)] 3)).alloc (.cells #[.slice (some ⟨w.heap.size, 0, none⟩) 1 1] 51)) B (w.heap.size + 1) 1 x [] [-1] := by
  obtain ⟨g, cap, x, hv, h⟩ := OwnE.last (ls := []) (p := [-1]) (own_unset w B hB)
  injection hv with h1 h2 h3
  injection h1 with h4
  injection h4 with h5
  subst h5
  subst h3
  exact ⟨x, h⟩
set_option maxRecDepth 100000 in
set_option maxHeartbeats 4000000 in
theorem rstep_bad (v : Value) (l : List (List Int)) (c : Nat) (w : World) (h : RL w v l) (hl : l.length ≤ 1000) (hb : chkV l = 150) :
    Calls Tryz.prog 75 #[v, .int .u8 (c : Int)] w fun e w' => ∃ v', e = .returned (.tuple #[v', .int .i64 150]) ∧ OwnL w' w.heap.size v' [] ∧ Below w.heap.size w w' := by
  have HK := Lib.hid (rcheck_any v l w h (by omega))
  rw [hb] at HK
  have HL := Lib.hid h
  obtain ⟨A, cc, rfl⟩ := h.form
  generalize l.length = n at HK HL hl
  clear hb
  go_enter Tryz.func75, Tryz.ntmps75
  go_wp2_with (go_at_call 45; refine HK.out.mono ?_; rintro e w1 ⟨rfl, hb1⟩)
  go_ret2
  exact ⟨_, rfl, OwnL.nil _ _, hb1⟩
set_option maxRecDepth 100000 in
set_option maxHeartbeats 4000000 in
theorem rstep_other (v : Value) (l : List (List Int)) (c : Nat) (w : World) (h : RL w v l) (hl : l.length ≤ 1000) (hc : c < 256) (hb : chkV l = 0) (k1 : (c : Int) < 48 ∨ 57 < (c : Int)) (k2 : (c : Int) ≠ 58) (k3 : (c : Int) ≠ 59) :
    Calls Tryz.prog 75 #[v, .int .u8 (c : Int)] w fun e w' => ∃ v', e = .returned (.tuple #[v', .int .i64 6]) ∧ OwnL w' w.heap.size v' [] ∧ Below w.heap.size w w' := by
  have HK := Lib.hid (rcheck_any v l w h (by omega))
  rw [hb] at HK
  have HL := Lib.hid h
  obtain ⟨A, cc, rfl⟩ := h.form
  generalize l.length = n at HK HL hl
  clear hb
  have j2 : ((c : Int) != 58) = true := by simpa using k2
  have j3 : ((c : Int) != 59) = true := by simpa using k3
  go_enter Tryz.func75, Tryz.ntmps75
  rcases k1 with k1 | k1
  all_goals
    go_wp2_with (go_at_call 45; refine HK.out.mono ?_; rintro e w1 ⟨rfl, hb1⟩)
    go_ret2
    exact ⟨_, rfl, OwnL.nil _ _, hb1⟩
set_option maxRecDepth 100000 in
set_option maxHeartbeats 4000000 in
theorem rstep_semiR (v : Value) (l : List (List Int)) (c : Nat) (w : World) (h : RL w v l) (hl : l.length ≤ 1000) (hp : ∀ p ∈ l, p.length ≤ 1000) (hc : c < 256) (hb : chkV l = 0) (ls : List (List Int)) (p : List Int) (ho : l = ls ++ [p]) (hm : ls.length < 15) (k1 : c = 59) :
    Calls Tryz.prog 75 #[v, .int .u8 (c : Int)] w fun e w' => ∃ v', e = .returned (.tuple #[v', .int .i64 0]) ∧ OwnL w' w.heap.size v' (ls ++ [p] ++ [[-1]]) ∧ Below w.heap.size w w' := by
  have HK := Lib.hid (rcheck_any v l w h (by omega))
  rw [hb] at HK
  have HL := Lib.hid h
  obtain ⟨A, cc, rfl⟩ := h.form
  have HO := Lib.hid ho
  have HC := fun W (hb1 : Below w.heap.size w W) => Lib.hid (rcopied_any (.slice A l.length cc) l W (HL.out.keep hb1) hl hp)
  obtain ⟨m, hm0⟩ : ∃ m, m = ls.length := ⟨_, rfl⟩
  have hlm : l.length = m + 1 := by rw [ho, hm0]; simp
  rw [hlm] at HK HL HC ⊢
  have HM := Lib.hid hm0
  obtain ⟨k, hk0⟩ : ∃ k, k = p.length := ⟨_, rfl⟩
  have hk1 : k ≤ 1000 := by rw [hk0]; exact hp _ (by rw [ho]; simp)
  have HP := Lib.hid hk0
  have i1 : (0 : Int) ≤ (m : Int) := by omega
  have i2 : (m : Int) < (m : Int) + 1 := by omega
  clear hp hb ho
  rw [← hm0] at hm
  clear hlm hm0 hk0 h hl
  subst k1
  go_enter Tryz.func75, Tryz.ntmps75
  obtain ⟨t1, hi1, hy0, hy1, hy2⟩ := info_parts infoP
  go_wp2_with (first
    | (go_at_call 45; refine HK.out.mono ?_; rintro e w1 ⟨rfl, hb1⟩)
    | (go_at_call 93; refine (HC _ hb1).out.mono ?_; rintro e w2 ⟨v2, rfl, ho2, hb2⟩; rw [HO.out] at ho2; obtain ⟨g, cap, x, rfl, hla⟩ := ho2.last; obtain ⟨AX, cx, rfl, _, _⟩ := own_slice hla.row; have HLA := Lib.hid hla; have hcl := hla.cell; rw [← HM.out] at hcl ⊢; rw [← HP.out] at hcl; clear hla ho2; obtain ⟨hc1, hc2, hc3⟩ := hcl; refine Hid.out ?_))
  refine Lib.hid ?_
  obtain ⟨us, r1, r2, r3⟩ := HLA.out.rows
  rw [← HM.out] at r1
  have R1 := Lib.hid r1
  have R2 := Lib.hid r2
  have R3 := Lib.hid r3
  have hb2s := hb2.size
  clear r1 r2 r3
  have e1 : ((m : Int) + 1 == 16) = false := by simp; omega
  have e0 : ((m : Int) + 1 == 0) = false := by simp; omega
  go_wp2_with (first
    | (at_builtin; refine wpList_app _ rfl (.tmp 51) (.tmp 54) 23 rfl w1.heap.size 51 t1 _ 24 Tryz.underlying23 hi1 hy0 hy1 hy2 rfl _ (m + 1) _ rfl (own_below R1.out (up (below_box _ _) (below_box _ _))) (some ⟨w2.heap.size + 1, 0, none⟩) 1 1 [.slice (some ⟨w2.heap.size, 0, none⟩) 1 1] rfl rfl (by have := Rd.one (w2.alloc (.cells #[.int .i64 (-1)] 3)) (.slice (some ⟨w2.heap.size, 0, none⟩) 1 1) 51; rw [World.size_alloc] at this; exact this) (by intro u hu; simp at hu; subst hu; rfl) (by omega) (by decide) (by rw [World.size_alloc, World.size_alloc]; have := hb2.size; omega) ?_; intro v6 w6 hown6 hgrow6 hat6))
  have hbA : Below w2.heap.size w2 ((w2.alloc (.cells #[.int .i64 (-1)] 3)).alloc (.cells #[.slice (some ⟨w2.heap.size, 0, none⟩) 1 1] 51)) := up (below_box _ _) (below_box _ _)
  have hg6 : ((w2.alloc (.cells #[.int .i64 (-1)] 3)).alloc (.cells #[.slice (some ⟨w2.heap.size, 0, none⟩) 1 1] 51)).grownBy w6 (some g) := hgrow6
  have hx1 : (w2.alloc (.cells #[.int .i64 (-1)] 3)).ownsRow w1.heap.size 3 1 (.slice (some ⟨w2.heap.size, 0, none⟩) 1 1) 1 (cI [-1]) := ⟨rfl, .inr ⟨w2.heap.size, 1, #[.int .i64 (-1)], rfl, hb2s, heap_alloc_new w2 _, Nat.le_refl _, by decide, rfl, rfl⟩⟩
  have hR := (OwnL.snoc (p := [-1]) (own_below R1.out hbA) R2.out (fun j y q hy hq => own_below (R3.out j y q hy hq) hbA) (own_below hx1 (below_box _ _)) hown6 hg6).mono hb1.size
  have hgB : w1.heap.size ≤ g := by obtain ⟨vs, hB, _⟩ := HLA.out; exact hB
  go_ret2
  exact ⟨v6, rfl, hR, up hb1 ((up hb2 hbA).grown hg6 (by simp; omega) (fun q hq => by cases hq; exact hgB))⟩
set_option maxRecDepth 100000 in
set_option maxHeartbeats 4000000 in
theorem rstep_semiF (v : Value) (l : List (List Int)) (c : Nat) (w : World) (h : RL w v l) (hl : l.length ≤ 1000) (hp : ∀ p ∈ l, p.length ≤ 1000) (hc : c < 256) (hb : chkV l = 0) (ls : List (List Int)) (p : List Int) (ho : l = ls ++ [p]) (hm : ls.length = 15) (k1 : c = 59) :
    Calls Tryz.prog 75 #[v, .int .u8 (c : Int)] w fun e w' => ∃ v', e = .returned (.tuple #[v', .int .i64 3]) ∧ OwnL w' w.heap.size v' [] ∧ Below w.heap.size w w' := by
  have HK := Lib.hid (rcheck_any v l w h (by omega))
  rw [hb] at HK
  have HL := Lib.hid h
  obtain ⟨A, cc, rfl⟩ := h.form
  have HO := Lib.hid ho
  have HC := fun W (hb1 : Below w.heap.size w W) => Lib.hid (rcopied_any (.slice A l.length cc) l W (HL.out.keep hb1) hl hp)
  obtain ⟨m, hm0⟩ : ∃ m, m = ls.length := ⟨_, rfl⟩
  have hlm : l.length = m + 1 := by rw [ho, hm0]; simp
  rw [hlm] at HK HL HC ⊢
  have HM := Lib.hid hm0
  obtain ⟨k, hk0⟩ : ∃ k, k = p.length := ⟨_, rfl⟩
  have hk1 : k ≤ 1000 := by rw [hk0]; exact hp _ (by rw [ho]; simp)
  have HP := Lib.hid hk0
  have i1 : (0 : Int) ≤ (m : Int) := by omega
  have i2 : (m : Int) < (m : Int) + 1 := by omega
  clear hp hb ho
  rw [← hm0] at hm
  clear hlm hm0 hk0 h hl
  subst k1
  subst hm
  go_enter Tryz.func75, Tryz.ntmps75
  go_wp2_with (first
    | (go_at_call 45; refine HK.out.mono ?_; rintro e w1 ⟨rfl, hb1⟩)
    | (go_at_call 93; refine (HC _ hb1).out.mono ?_; rintro e w2 ⟨v2, rfl, ho2, hb2⟩; rw [HO.out] at ho2; obtain ⟨g, cap, x, rfl, hla⟩ := ho2.last; obtain ⟨AX, cx, rfl, _, _⟩ := own_slice hla.row; have HLA := Lib.hid hla; have hcl := hla.cell; rw [← HM.out] at hcl ⊢; rw [← HP.out] at hcl; clear hla ho2; obtain ⟨hc1, hc2, hc3⟩ := hcl; refine Hid.out ?_))
  refine Lib.hid ?_
  skip
  go_wp2
  go_ret2
  exact ⟨_, rfl, OwnL.nil _ _, up hb1 hb2⟩
set_option maxRecDepth 100000 in
set_option maxHeartbeats 4000000 in
theorem rstep_colonR (v : Value) (l : List (List Int)) (c : Nat) (w : World) (h : RL w v l) (hl : l.length ≤ 1000) (hp : ∀ p ∈ l, p.length ≤ 1000) (hc : c < 256) (hb : chkV l = 0) (ls : List (List Int)) (p : List Int) (ho : l = ls ++ [p]) (hls : ls.length ≤ 1000) (hm : p.length < 6) (k1 : c = 58) :
    Calls Tryz.prog 75 #[v, .int .u8 (c : Int)] w fun e w' => ∃ v', e = .returned (.tuple #[v', .int .i64 0]) ∧ OwnL w' w.heap.size v' (ls ++ [p ++ [-1]]) ∧ Below w.heap.size w w' := by
  have HK := Lib.hid (rcheck_any v l w h (by omega))
  rw [hb] at HK
  have HL := Lib.hid h
  obtain ⟨A, cc, rfl⟩ := h.form
  have HO := Lib.hid ho
  have HC := fun W (hb1 : Below w.heap.size w W) => Lib.hid (rcopied_any (.slice A l.length cc) l W (HL.out.keep hb1) hl hp)
  obtain ⟨m, hm0⟩ : ∃ m, m = ls.length := ⟨_, rfl⟩
  have hlm : l.length = m + 1 := by rw [ho, hm0]; simp
  rw [hlm] at HK HL HC ⊢
  have HM := Lib.hid hm0
  obtain ⟨k, hk0⟩ : ∃ k, k = p.length := ⟨_, rfl⟩
  have hk1 : k ≤ 1000 := by rw [hk0]; exact hp _ (by rw [ho]; simp)
  have HP := Lib.hid hk0
  have i1 : (0 : Int) ≤ (m : Int) := by omega
  have i2 : (m : Int) < (m : Int) + 1 := by omega
  clear hp hb ho
  have hm3 : m ≤ 1000 := by rw [hm0]; exact hls
  clear hls
  rw [← hk0] at hm
  clear hlm hm0 hk0 h hl
  subst k1
  go_enter Tryz.func75, Tryz.ntmps75
  obtain ⟨t1, hi1, hy0, hy1, hy2⟩ := info_parts infoI
  go_wp2_with (first
    | (go_at_call 45; refine HK.out.mono ?_; rintro e w1 ⟨rfl, hb1⟩)
    | (go_at_call 93; refine (HC _ hb1).out.mono ?_; rintro e w2 ⟨v2, rfl, ho2, hb2⟩; rw [HO.out] at ho2; obtain ⟨g, cap, x, rfl, hla⟩ := ho2.last; obtain ⟨AX, cx, rfl, _, _⟩ := own_slice hla.row; have HLA := Lib.hid hla; have hcl := hla.cell; rw [← HM.out] at hcl ⊢; rw [← HP.out] at hcl; clear hla ho2; obtain ⟨hc1, hc2, hc3⟩ := hcl; refine Hid.out ?_))
  refine Lib.hid ?_
  have e1 : ((k : Int) == 6) = false := by simp; omega
  have e0 : ((m : Int) + 1 == 0) = false := by simp; omega
  have hb2s := hb2.size
  have RX := HLA.out.row
  rw [← HP.out] at RX
  have R1 := Lib.hid RX
  clear RX
  go_wp2_with (at_builtin; refine wpList_app _ rfl (.tmp 68) (.tmp 69) 49 rfl w1.heap.size 3 t1 _ 8 Tryz.underlying49 hi1 hy0 hy1 hy2 rfl _ k (cI p) rfl (own_below R1.out (below_box _ _)) (some ⟨w2.heap.size, 0, none⟩) 1 1 [.int .i64 (-1)] rfl rfl (Rd.one _ _ _) (by intro u hu; simp at hu; subst hu; rfl) (by omega) (by decide) (by rw [World.size_alloc]; omega) ?_; intro v6 w6 hown6 hgrow6 hat6; refine Hid.out ?_)
  refine Lib.hid ?_
  have hbA := below_box w2 (.cells #[.int .i64 (-1)] 3)
  have hg6 : (w2.alloc (.cells #[.int .i64 (-1)] 3)).grownBy w6 (Value.slice AX k cx).ownBlock := hgrow6
  have hl6 : (p ++ [-1]).length = k + 1 := by rw [List.length_append, ← HP.out]; rfl
  have hown7 : w6.ownsRow w1.heap.size 3 1 v6 (p ++ [-1]).length (cI (p ++ [-1])) := by rw [hl6, cI_append]; exact hown6
  have hL := HLA.out.keep hbA
  rw [← HP.out] at hL
  obtain ⟨-, f2, f3, f4⟩ := hL.colon hown7 hg6
  have f1 := hL.colonO hown7 hg6
  rw [← HM.out] at f1 f2 f3 f4
  have hbB : Below w1.heap.size (w2.alloc (.cells #[.int .i64 (-1)] 3)) w6 := (Below.refl _ _).grown hg6 (by rw [World.size_alloc]; omega) (fun q hq => (R1.out.lt q hq).1)
  obtain ⟨A6, c6, rfl, _, _⟩ := own_slice hown6
  have F1 := Lib.hid (And.intro (f1.mono hb1.size) (up hb1 (up hb2 hbA |>.trans (f4 hbB))))
  clear f1 f4 hbB hg6 hgrow6 hat6 hown6 hown7 hbA hL
  go_wp2
  go_ret2
  exact ⟨_, rfl, F1.out⟩
set_option maxRecDepth 100000 in
set_option maxHeartbeats 4000000 in
theorem rstep_colonF (v : Value) (l : List (List Int)) (c : Nat) (w : World) (h : RL w v l) (hl : l.length ≤ 1000) (hp : ∀ p ∈ l, p.length ≤ 1000) (hc : c < 256) (hb : chkV l = 0) (ls : List (List Int)) (p : List Int) (ho : l = ls ++ [p]) (hls : ls.length ≤ 1000) (hm : p.length = 6) (k1 : c = 58) :
    Calls Tryz.prog 75 #[v, .int .u8 (c : Int)] w fun e w' => ∃ v', e = .returned (.tuple #[v', .int .i64 3]) ∧ OwnL w' w.heap.size v' [] ∧ Below w.heap.size w w' := by
  have HK := Lib.hid (rcheck_any v l w h (by omega))
  rw [hb] at HK
  have HL := Lib.hid h
  obtain ⟨A, cc, rfl⟩ := h.form
  have HO := Lib.hid ho
  have HC := fun W (hb1 : Below w.heap.size w W) => Lib.hid (rcopied_any (.slice A l.length cc) l W (HL.out.keep hb1) hl hp)
  obtain ⟨m, hm0⟩ : ∃ m, m = ls.length := ⟨_, rfl⟩
  have hlm : l.length = m + 1 := by rw [ho, hm0]; simp
  rw [hlm] at HK HL HC ⊢
  have HM := Lib.hid hm0
  obtain ⟨k, hk0⟩ : ∃ k, k = p.length := ⟨_, rfl⟩
  have hk1 : k ≤ 1000 := by rw [hk0]; exact hp _ (by rw [ho]; simp)
  have HP := Lib.hid hk0
  have i1 : (0 : Int) ≤ (m : Int) := by omega
  have i2 : (m : Int) < (m : Int) + 1 := by omega
  clear hp hb ho
  have hm3 : m ≤ 1000 := by rw [hm0]; exact hls
  clear hls
  rw [← hk0] at hm
  clear hlm hm0 hk0 h hl
  subst k1
  subst hm
  go_enter Tryz.func75, Tryz.ntmps75
  go_wp2_with (first
    | (go_at_call 45; refine HK.out.mono ?_; rintro e w1 ⟨rfl, hb1⟩)
    | (go_at_call 93; refine (HC _ hb1).out.mono ?_; rintro e w2 ⟨v2, rfl, ho2, hb2⟩; rw [HO.out] at ho2; obtain ⟨g, cap, x, rfl, hla⟩ := ho2.last; obtain ⟨AX, cx, rfl, _, _⟩ := own_slice hla.row; have HLA := Lib.hid hla; have hcl := hla.cell; rw [← HM.out] at hcl ⊢; rw [← HP.out] at hcl; clear hla ho2; obtain ⟨hc1, hc2, hc3⟩ := hcl; refine Hid.out ?_))
  refine Lib.hid ?_
  have e0 : ((m : Int) + 1 == 0) = false := by simp; omega
  go_wp2
  go_ret2
  exact ⟨_, rfl, OwnL.nil _ _, up hb1 hb2⟩
set_option maxRecDepth 100000 in
set_option maxHeartbeats 4000000 in
theorem rstep_digit (v : Value) (l : List (List Int)) (c : Nat) (w : World) (h : RL w v l) (hl : l.length ≤ 1000) (hp : ∀ p ∈ l, p.length ≤ 1000) (hc : c < 256) (hb : chkV l = 0) (ls : List (List Int)) (ps : List Int) (z : Int) (ho : l = ls ++ [ps ++ [z]]) (hls : ls.length ≤ 1000) (hl2 : ps.length ≤ 1000) (hn : -1 ≤ z) (hn2 : z ≤ 9999) (k1 : (48 : Int) ≤ (c : Int)) (k2 : (c : Int) ≤ 57) :
    Calls Tryz.prog 75 #[v, .int .u8 (c : Int)] w fun e w' => ∃ v', e = .returned (.tuple #[v', .int .i64 0]) ∧ OwnL w' w.heap.size v' (ls ++ [ps ++ [digI z ((c : Int) - 48)]]) ∧ Below w.heap.size w w' := by
  have HK := Lib.hid (rcheck_any v l w h (by omega))
  rw [hb] at HK
  have HL := Lib.hid h
  obtain ⟨A, cc, rfl⟩ := h.form
  have HO := Lib.hid ho
  have HC := fun W (hb1 : Below w.heap.size w W) => Lib.hid (rcopied_any (.slice A l.length cc) l W (HL.out.keep hb1) hl hp)
  obtain ⟨m, hm0⟩ : ∃ m, m = ls.length := ⟨_, rfl⟩
  have hlm : l.length = m + 1 := by rw [ho, hm0]; simp
  rw [hlm] at HK HL HC ⊢
  have HM := Lib.hid hm0
  obtain ⟨k, hk0⟩ : ∃ k, k = ps.length := ⟨_, rfl⟩
  have hk1 : k ≤ 1000 := by rw [hk0]; exact hl2
  obtain ⟨z', hz'⟩ : ∃ z', z' = digI z ((c : Int) - 48) := ⟨_, rfl⟩
  rw [← hz']
  have HZ := Lib.hid hz'
  clear hl2 hz'
  have q1 : decide ((c : Int) < 48) = false := by simp; omega
  have q2 : decide ((57 : Int) < (c : Int)) = false := by simp; omega
  have q3 : ((c : Int) == 58) = false := by simp; omega
  have q4 : ((c : Int) == 59) = false := by simp; omega
  have HP := Lib.hid hk0
  have i1 : (0 : Int) ≤ (m : Int) := by omega
  have i2 : (m : Int) < (m : Int) + 1 := by omega
  clear hp hb ho
  have hm3 : m ≤ 1000 := by rw [hm0]; exact hls
  clear hls
  clear hlm hm0 hk0 h hl
  go_enter Tryz.func75, Tryz.ntmps75
  go_wp2_with (first
    | (go_at_call 45; refine HK.out.mono ?_; rintro e w1 ⟨rfl, hb1⟩)
    | (go_at_call 93; refine (HC _ hb1).out.mono ?_; rintro e w2 ⟨v2, rfl, ho2, hb2⟩; rw [HO.out] at ho2; obtain ⟨g, cap, x, rfl, hla⟩ := ho2.last; have hcl := hla.cell; obtain ⟨b, c2, hx, d1, d2, d3, -, d5⟩ := hla.digit z'; have d4 := hla.digitO z' b c2 hx; subst hx; rw [← HM.out] at hcl d4 ⊢; rw [← HP.out] at hcl d1 d2 d4 d5; have D4 := Lib.hid d4; have D5 := Lib.hid (d5 w1); clear hla ho2 d4 d5; obtain ⟨hc1, hc2, hc3⟩ := hcl; refine Hid.out ?_))
  refine Lib.hid ?_
  have e0 : ((m : Int) + 1 == 0) = false := by simp; omega
  have j0 : (0 : Int) ≤ (k : Int) := by omega
  have j1 : (k : Int) < (k : Int) + 1 := by omega
  have hb2s := hb2.size
  clear HL HK HC HO
  go_upto_region 20 with fail
  go_region
  have ez : (if (10 * if 0 < z then z else 0) + ((c : Int) - 48) < 9999 then (10 * if 0 < z then z else 0) + ((c : Int) - 48) else 9999) = z' := by
    rw [HZ.out]; unfold digI; split <;> split <;> omega
  rw [ez]
  have G := Lib.hid (And.intro ((D4.out.keep ((Below.refl _ _).drew)).mono hb1.size) ((up hb1 (D5.out hb2)).drew))
  go_wp2
  all_goals
    go_ret2
    exact ⟨_, rfl, G.out⟩
set_option maxRecDepth 100000 in
set_option maxHeartbeats 4000000 in
theorem rstep_digitE (v : Value) (c : Nat) (w : World) (h : RL w v []) (hc : c < 256) (k1 : (48 : Int) ≤ (c : Int)) (k2 : (c : Int) ≤ 57) :
    Calls Tryz.prog 75 #[v, .int .u8 (c : Int)] w fun e w' => ∃ v', e = .returned (.tuple #[v', .int .i64 0]) ∧ OwnL w' w.heap.size v' [[digI (-1) ((c : Int) - 48)]] ∧ Below w.heap.size w w' := by
  have HK := Lib.hid (rcheck_any v [] w h (by decide))
  rw [show chkV [] = 0 by decide] at HK
  obtain ⟨A, cc, rfl⟩ := h.form
  have HC := fun W (hb1 : Below w.heap.size w W) => Lib.hid (rcopied_any (.slice A 0 cc) [] W (h.keep hb1) (by decide) (by simp))
  rw [show ([] : List (List Int)).length = 0 from rfl] at HK ⊢
  obtain ⟨z', hz'⟩ : ∃ z', z' = digI (-1) ((c : Int) - 48) := ⟨_, rfl⟩
  rw [← hz']
  have HZ := Lib.hid hz'
  clear hz'
  have q1 : decide ((c : Int) < 48) = false := by simp; omega
  have q2 : decide ((57 : Int) < (c : Int)) = false := by simp; omega
  have q3 : ((c : Int) == 58) = false := by simp; omega
  have q4 : ((c : Int) == 59) = false := by simp; omega
  go_enter Tryz.func75, Tryz.ntmps75
  go_wp2_with (first
    | (go_at_call 45; refine HK.out.mono ?_; rintro e w1 ⟨rfl, hb1⟩)
    | (go_at_call 93; refine (HC _ hb1).out.mono ?_; rintro e wa ⟨v2, rfl, ho2, hba⟩; obtain ⟨A2, c2, rfl⟩ := ho2.ownL.rl.form; rw [show ([] : List (List Int)).length = 0 from rfl]; clear ho2; refine Hid.out ?_))
  refine Lib.hid ?_
  go_upto_region 8 with fail
  obtain ⟨x, hla⟩ := last_unset wa w1.heap.size hba.size
  have hb2 : Below w1.heap.size w1 ((wa.alloc (.cells #[.int .i64 (-1)] 3)).alloc (.cells #[.slice (some ⟨wa.heap.size, 0, none⟩) 1 1] 51)) := up hba (up (below_box _ _) (below_box _ _))
  generalize (wa.alloc (.cells #[.int .i64 (-1)] 3)).alloc (.cells #[.slice (some ⟨wa.heap.size, 0, none⟩) 1 1] 51) = w2 at hla hb2 ⊢
  generalize wa.heap.size + 1 = g at hla ⊢
  clear hba HC HK h
  have hb2s := hb2.size
  have hcl := hla.cell
  obtain ⟨b, c2, hx, d1, d2, d3, -, d5⟩ := (show LastP w2 w1.heap.size g 1 x [] ([] ++ [-1]) from hla).digit z'
  have d4 := (show LastP w2 w1.heap.size g 1 x [] ([] ++ [-1]) from hla).digitO z' b c2 hx
  subst hx
  obtain ⟨hc1, hc2, hc3⟩ := hcl
  rw [show ([] : List (List Int)).length = 0 from rfl] at hc1 hc2 d4
  rw [show ([] : List Int).length = 0 from rfl] at hc1 d1 d2 d4 d5
  rw [show (0 : Nat) + 1 = 1 from rfl] at hc1 d4
  have D4 := Lib.hid d4
  have D5 := Lib.hid (d5 w1)
  clear hla d4 d5
  go_upto_region 20 with fail
  go_region
  have ez : (c : Int) - 48 = z' := by
    rw [HZ.out]; unfold digI; omega
  rw [ez]
  have G := Lib.hid (And.intro ((D4.out.keep ((Below.refl _ _).drew)).mono hb1.size) ((up hb1 (D5.out hb2)).drew))
  go_wp2
  all_goals
    go_ret2
    exact ⟨_, rfl, G.out⟩
set_option maxRecDepth 100000 in
set_option maxHeartbeats 4000000 in
theorem rstep_colonRE (v : Value) (c : Nat) (w : World) (h : RL w v []) (k1 : c = 58) :
    Calls Tryz.prog 75 #[v, .int .u8 (c : Int)] w fun e w' => ∃ v', e = .returned (.tuple #[v', .int .i64 0]) ∧ OwnL w' w.heap.size v' [[-1, -1]] ∧ Below w.heap.size w w' := by
  have HK := Lib.hid (rcheck_any v [] w h (by decide))
  rw [show chkV [] = 0 by decide] at HK
  obtain ⟨A, cc, rfl⟩ := h.form
  have HC := fun W (hb1 : Below w.heap.size w W) => Lib.hid (rcopied_any (.slice A 0 cc) [] W (h.keep hb1) (by decide) (by simp))
  rw [show ([] : List (List Int)).length = 0 from rfl] at HK ⊢
  subst k1
  go_enter Tryz.func75, Tryz.ntmps75
  go_wp2_with (first
    | (go_at_call 45; refine HK.out.mono ?_; rintro e w1 ⟨rfl, hb1⟩)
    | (go_at_call 93; refine (HC _ hb1).out.mono ?_; rintro e wa ⟨v2, rfl, ho2, hba⟩; obtain ⟨A2, c2, rfl⟩ := ho2.ownL.rl.form; rw [show ([] : List (List Int)).length = 0 from rfl]; clear ho2; refine Hid.out ?_))
  refine Lib.hid ?_
  go_upto_region 8 with fail
  obtain ⟨x, hla⟩ := last_unset wa w1.heap.size hba.size
  have hb2 : Below w1.heap.size w1 ((wa.alloc (.cells #[.int .i64 (-1)] 3)).alloc (.cells #[.slice (some ⟨wa.heap.size, 0, none⟩) 1 1] 51)) := up hba (up (below_box _ _) (below_box _ _))
  generalize (wa.alloc (.cells #[.int .i64 (-1)] 3)).alloc (.cells #[.slice (some ⟨wa.heap.size, 0, none⟩) 1 1] 51) = w2 at hla hb2 ⊢
  generalize wa.heap.size + 1 = g at hla ⊢
  clear hba HC HK h
  have hb2s := hb2.size
  obtain ⟨AX, cx, rfl, _, _⟩ := own_slice hla.row
  obtain ⟨hc1, hc2, hc3⟩ := hla.cell
  rw [show ([] : List (List Int)).length = 0 from rfl] at hc1 hc2
  rw [show ([-1] : List Int).length = 1 from rfl] at hc1
  have HLA := Lib.hid (show LastP w2 w1.heap.size g 1 (Value.slice AX 1 cx) [] [-1] from hla)
  have R1 := Lib.hid (show w2.ownsRow w1.heap.size 3 1 (Value.slice AX 1 cx) 1 (cI [-1]) from hla.row)
  clear hla
  obtain ⟨t1, hi1, hy0, hy1, hy2⟩ := info_parts infoI
  go_wp2_with (at_builtin; refine wpList_app _ rfl (.tmp 68) (.tmp 69) 49 rfl w1.heap.size 3 t1 _ 8 Tryz.underlying49 hi1 hy0 hy1 hy2 rfl _ 1 (cI [-1]) rfl (own_below R1.out (below_box _ _)) (some ⟨w2.heap.size, 0, none⟩) 1 1 [.int .i64 (-1)] rfl rfl (Rd.one _ _ _) (by intro u hu; simp at hu; subst hu; rfl) (by decide) (by decide) (by rw [World.size_alloc]; omega) ?_; intro v6 w6 hown6 hgrow6 hat6; refine Hid.out ?_)
  refine Lib.hid ?_
  have hbA := below_box w2 (.cells #[.int .i64 (-1)] 3)
  have hg6 : (w2.alloc (.cells #[.int .i64 (-1)] 3)).grownBy w6 (Value.slice AX 1 cx).ownBlock := hgrow6
  have hown7 : w6.ownsRow w1.heap.size 3 1 v6 ([-1, -1] : List Int).length (cI [-1, -1]) := hown6
  have hL := HLA.out.keep hbA
  obtain ⟨-, f2, f3, f4⟩ := hL.colon hown7 hg6
  have f1 := hL.colonO hown7 hg6
  rw [show ([] : List (List Int)).length = 0 from rfl] at f1 f2 f3 f4
  have hbB : Below w1.heap.size (w2.alloc (.cells #[.int .i64 (-1)] 3)) w6 := (Below.refl _ _).grown hg6 (by rw [World.size_alloc]; omega) (fun q hq => (R1.out.lt q hq).1)
  obtain ⟨A6, c6, rfl, _, _⟩ := own_slice hown6
  have F1 := Lib.hid (And.intro ((show OwnL _ w1.heap.size (Value.slice (some ⟨g, 0, none⟩) 1 1) [[-1, -1]] from f1).mono hb1.size) (up hb1 (up hb2 hbA |>.trans (f4 hbB))))
  clear f1 f4 hbB hg6 hgrow6 hat6 hown6 hown7 hbA hL
  go_wp2
  go_ret2
  exact ⟨_, rfl, F1.out⟩
set_option maxRecDepth 100000 in
set_option maxHeartbeats 4000000 in
theorem rstep_semiRE (v : Value) (c : Nat) (w : World) (h : RL w v []) (k1 : c = 59) :
    Calls Tryz.prog 75 #[v, .int .u8 (c : Int)] w fun e w' => ∃ v', e = .returned (.tuple #[v', .int .i64 0]) ∧ OwnL w' w.heap.size v' [[-1], [-1]] ∧ Below w.heap.size w w' := by
  have HK := Lib.hid (rcheck_any v [] w h (by decide))
  rw [show chkV [] = 0 by decide] at HK
  obtain ⟨A, cc, rfl⟩ := h.form
  have HC := fun W (hb1 : Below w.heap.size w W) => Lib.hid (rcopied_any (.slice A 0 cc) [] W (h.keep hb1) (by decide) (by simp))
  rw [show ([] : List (List Int)).length = 0 from rfl] at HK ⊢
  subst k1
  go_enter Tryz.func75, Tryz.ntmps75
  go_wp2_with (first
    | (go_at_call 45; refine HK.out.mono ?_; rintro e w1 ⟨rfl, hb1⟩)
    | (go_at_call 93; refine (HC _ hb1).out.mono ?_; rintro e wa ⟨v2, rfl, ho2, hba⟩; obtain ⟨A2, c2, rfl⟩ := ho2.ownL.rl.form; rw [show ([] : List (List Int)).length = 0 from rfl]; clear ho2; refine Hid.out ?_))
  refine Lib.hid ?_
  go_upto_region 8 with fail
  obtain ⟨x, hla⟩ := last_unset wa w1.heap.size hba.size
  have hb2 : Below w1.heap.size w1 ((wa.alloc (.cells #[.int .i64 (-1)] 3)).alloc (.cells #[.slice (some ⟨wa.heap.size, 0, none⟩) 1 1] 51)) := up hba (up (below_box _ _) (below_box _ _))
  generalize (wa.alloc (.cells #[.int .i64 (-1)] 3)).alloc (.cells #[.slice (some ⟨wa.heap.size, 0, none⟩) 1 1] 51) = w2 at hla hb2 ⊢
  generalize wa.heap.size + 1 = g at hla ⊢
  clear hba HC HK h
  have hb2s := hb2.size
  obtain ⟨AX, cx, rfl, _, _⟩ := own_slice hla.row
  obtain ⟨hc1, hc2, hc3⟩ := hla.cell
  rw [show ([] : List (List Int)).length = 0 from rfl] at hc1 hc2
  rw [show ([-1] : List Int).length = 1 from rfl] at hc1
  obtain ⟨us, r1, r2, r3⟩ := hla.rows
  have hgB : w1.heap.size ≤ g := by obtain ⟨vs, hB, _⟩ := hla; exact hB
  have R1 := Lib.hid (show w2.ownsRow w1.heap.size 51 1 (.slice (some ⟨g, 0, none⟩) 1 1) 1 us from r1)
  have R2 := Lib.hid r2
  have R3 := Lib.hid r3
  clear hla r1 r2 r3
  obtain ⟨t1, hi1, hy0, hy1, hy2⟩ := info_parts infoP
  go_wp2_with (first
    | (at_builtin; refine wpList_app _ rfl (.tmp 51) (.tmp 54) 23 rfl w1.heap.size 51 t1 _ 24 Tryz.underlying23 hi1 hy0 hy1 hy2 rfl _ 1 _ rfl (own_below R1.out (up (below_box _ _) (below_box _ _))) (some ⟨w2.heap.size + 1, 0, none⟩) 1 1 [.slice (some ⟨w2.heap.size, 0, none⟩) 1 1] rfl rfl (by have := Rd.one (w2.alloc (.cells #[.int .i64 (-1)] 3)) (.slice (some ⟨w2.heap.size, 0, none⟩) 1 1) 51; rw [World.size_alloc] at this; exact this) (by intro u hu; simp at hu; subst hu; rfl) (by decide) (by decide) (by rw [World.size_alloc, World.size_alloc]; have := hb2.size; omega) ?_; intro v6 w6 hown6 hgrow6 hat6))
  have hbA : Below w2.heap.size w2 ((w2.alloc (.cells #[.int .i64 (-1)] 3)).alloc (.cells #[.slice (some ⟨w2.heap.size, 0, none⟩) 1 1] 51)) := up (below_box _ _) (below_box _ _)
  have hg6 : ((w2.alloc (.cells #[.int .i64 (-1)] 3)).alloc (.cells #[.slice (some ⟨w2.heap.size, 0, none⟩) 1 1] 51)).grownBy w6 (some g) := hgrow6
  have hx1 : (w2.alloc (.cells #[.int .i64 (-1)] 3)).ownsRow w1.heap.size 3 1 (.slice (some ⟨w2.heap.size, 0, none⟩) 1 1) 1 (cI [-1]) := ⟨rfl, .inr ⟨w2.heap.size, 1, #[.int .i64 (-1)], rfl, hb2s, heap_alloc_new w2 _, Nat.le_refl _, by decide, rfl, rfl⟩⟩
  have hR := (OwnL.snoc (p := [-1]) (own_below R1.out hbA) R2.out (fun j y q hy hq => own_below (R3.out j y q hy hq) hbA) (own_below hx1 (below_box _ _)) hown6 hg6).mono hb1.size
  go_ret2
  exact ⟨v6, rfl, hR, up hb1 ((up hb2 hbA).grown hg6 (by simp; omega) (fun q hq => by cases hq; exact hgB))⟩
end Go.Proofs.YtmboekpomjgnnaaGreatDoor.Par
