/-
  StaAh0
-/
import Derived.Deep.RegionHeld3
import Derived.Test.YtmboekpomjgnnaaGreatDoorF14
namespace Go.Proofs.YtmboekpomjgnnaaGreatDoor.Sta
open Go.RowKit Utf Par

set_option maxRecDepth 100000 in
set_option maxHeartbeats 8000000 in
theorem isValid_good0 (p : PS) (n : Nat) (hn : n < 15) (hst : p.st = n) (hbad : p.bad = false) (h4 : decide (p.pr.toNat = 0) = true) (au aq : Option Addr) (nu cu nq cq : Nat) (w : World) (hr : RS w (.slice au nu cu) (.slice aq nq cq) p) (hm : Mk w) (ht : Tf w)
    (s1 : p.utf.length ≤ 1000000) (s2 : Kq p.ps) (s3 : p.it.size ≤ 1000000) (s4 : p.tx.size ≤ 1000000) :
    Calls Tryz.prog 20 #[.agg (cS p (.slice au nu cu) (.slice aq nq cq))] w fun e w' => e = .returned (.bool (goodB n p)) ∧ Below w.heap.size w w' := by
  obtain ⟨st, utf, pr, fi, pp, it, tx, bad⟩ := p
  dsimp only at hst hbad h4 s1 s2 s3 s4
  subst hst; subst hbad
  unfold cS goodB
  dsimp only
  obtain ⟨⟨A, c, he, hcu, hrd⟩, hrl⟩ := hr
  cases he
  dsimp only at hcu hrd hrl
  have hql : nq = pp.length := by obtain ⟨A, n, he⟩ := hrl.form; cases he; rfl
  have HFI := Lib.hid (fun W => filled_any (n : Int) au aq utf.length cu nq cq pr.toNat fi.toNat it tx false W)
  have HWH := Lib.hid (fun W => whole_any (n : Int) au aq utf.length cu nq cq pr.toNat fi.toNat it tx false W)
  have HRI := Lib.hid (fun W (hb : Below w.heap.size w W) => right_any au cu utf W (hrd.below hb) (hm.keep hb) hcu s1)
  have HCH := Lib.hid (fun W (hb : Below w.heap.size w W) => check_any (.slice aq nq cq) pp W (hrl.keep hb) s2.1 s2.2)
  have HA1 := Lib.hid (fun W => all_isSign it W s3)
  have HA2 := Lib.hid (fun W => all_isText tx W s4)
  have HP4 := Lib.hid (fun W => isPrivate_any pr W)
  have HP8 := Lib.hid (fun W => isFinal_any fi W)
  rw [← hql]
  have hv := ht.2 n hn
  have hglt := ht.1
  have k1 := okF_is n hn (decide (0 < utf.length)) (!decide (pr.toNat = 0)) (decide (0 < nq)) (!sz0 it) (!decide (fi.toNat = 0)) (!sz0 tx)
  generalize okF n (decide (0 < utf.length)) (!decide (pr.toNat = 0)) (decide (0 < nq)) (!sz0 it) (!decide (fi.toNat = 0)) (!sz0 tx) = m1 at k1 ⊢
  generalize filN (decide (0 < utf.length)) (!decide (pr.toNat = 0)) (decide (0 < nq)) (!sz0 it) (!decide (fi.toNat = 0)) (!sz0 tx) = F at k1 HFI
  generalize whoB (n : Int) (!sz0 it) (!decide (pr.toNat = 0)) (decide (0 < nq)) (!decide (fi.toNat = 0)) = m2 at HWH ⊢
  generalize fld n = V at k1 hv
  generalize (utf.isEmpty || preB utf) = m3 at HRI ⊢
  have k4 : ((pr.toNat : Int) == 0) = decide (pr.toNat = 0) := by
    by_cases h : pr.toNat = 0
    · rw [h]; rfl
    · rw [decide_eq_false h]; simp; omega
  generalize decide (pr.toNat = 0) = m4 at k4 h4 ⊢
  generalize privB pr = m4' at HP4 ⊢
  have k5 : (chkV pp == 0) = decide (chkV pp = 0) := rfl
  generalize decide (chkV pp = 0) = m5 at k5 ⊢
  generalize chkV pp = z at k5 HCH
  have k6 : decide ((it.size : Int) ≤ 2) = decide (it.size ≤ 2) := decide_eq_decide.2 (by omega)
  generalize decide (it.size ≤ 2) = m6 at k6 ⊢
  generalize allB signB it = m7 at HA1 ⊢
  have k8 : ((fi.toNat : Int) == 0) = decide (fi.toNat = 0) := by
    by_cases h : fi.toNat = 0
    · rw [h]; rfl
    · rw [decide_eq_false h]; simp; omega
  generalize decide (fi.toNat = 0) = m8 at k8 ⊢
  generalize finlB fi = m8' at HP8 ⊢
  have k9 : decide ((tx.size : Int) ≤ 512) = decide (tx.size ≤ 512) := decide_eq_decide.2 (by omega)
  generalize decide (tx.size ≤ 512) = m9 at k9 ⊢
  generalize allB textB tx = m10 at HA2 ⊢
  generalize utf.length = nu at *
  generalize pr.toNat = x at *
  generalize fi.toNat = y at *
  clear hrd hrl hql s1 s2 s3 s4 hcu
  have hb1 : Below w.heap.size w (w.alloc (.cells #[.int .i64 (n : Int), .slice au nu cu, .int .u8 (x : Int), .int .u8 (y : Int), .slice aq nq cq, .string it, .string tx, .bool false] 25)) := below_box _ _
  have hx := Box.new w #[.int .i64 (n : Int), .slice au nu cu, .int .u8 (x : Int), .int .u8 (y : Int), .slice aq nq cq, .string it, .string tx, .bool false] 25
  have i1 : (0 : Int) ≤ (n : Int) := by omega
  have i2 : (n : Int) < 15 := by omega
  go_enter Tryz.func20, Tryz.ntmps20
  go_upto_region 1 with fail
  generalize w.alloc (.cells #[.int .i64 (n : Int), .slice au nu cu, .int .u8 (x : Int), .int .u8 (y : Int), .slice aq nq cq, .string it, .string tx, .bool false] 25) = w1 at hb1 hx ⊢
  have HK := Lib.hid (show ∀ W, Below w1.heap.size w1 W → W.cell? ⟨w.heap.size, 0, none⟩ = some (.int .i64 (n : Int)) ∧ W.cell? ⟨w.heap.size, 1, none⟩ = some (.slice au nu cu) ∧ W.cell? ⟨w.heap.size, 2, none⟩ = some (.int .u8 (x : Int)) ∧ W.cell? ⟨w.heap.size, 3, none⟩ = some (.int .u8 (y : Int)) ∧ W.cell? ⟨w.heap.size, 4, none⟩ = some (.slice aq nq cq) ∧ W.cell? ⟨w.heap.size, 5, none⟩ = some (.string it) ∧ W.cell? ⟨w.heap.size, 6, none⟩ = some (.string tx) ∧ W.cell? ⟨w.heap.size, 7, none⟩ = some (.bool false) ∧ W.cell? ⟨0, n, none⟩ = some (.int .i64 V) from fun W hW =>
    ⟨(hx.keep hW).cell 0 _ rfl, (hx.keep hW).cell 1 _ rfl, (hx.keep hW).cell 2 _ rfl, (hx.keep hW).cell 3 _ rfl, (hx.keep hW).cell 4 _ rfl, (hx.keep hW).cell 5 _ rfl, (hx.keep hW).cell 6 _ rfl, (hx.keep hW).cell 7 _ rfl, ((up hb1 hW).cell (p := ⟨0, n, none⟩) hglt).trans hv⟩)
  have HB1 := Lib.hid hb1
  have hB := Below.refl w1.heap.size w1
  obtain ⟨x0, x1, x2, x3, x4, x5, x6, x7, x8⟩ := HK.out _ hB
  clear hb1 hx hv
  obtain ⟨B0, hB0⟩ : ∃ B0, B0 = w.heap.size := ⟨_, rfl⟩
  rw [← hB0] at HK x0 x1 x2 x3 x4 x5 x6 x7 HB1 HRI HCH hglt ⊢
  have HB0 := Lib.hid hB0.symm
  have HS1 := Lib.hid (show B0 ≤ w1.heap.size by rw [← HB0.out]; exact HB1.out.size)
  clear hB0
  subst h4
  go_wp2_with fail
  simp only [List.append_eq, List.cons_append, List.nil_append]
  have hB := hB.drew
  clear x0 x1 x2 x3 x4 x5 x6 x7 x8
  refine wp_region_held_drew (S := fun W => W.cell? ⟨B0, 0, none⟩ = some (.int .i64 (n : Int)) ∧ W.cell? ⟨B0, 1, none⟩ = some (.slice au nu cu) ∧ W.cell? ⟨B0, 2, none⟩ = some (.int .u8 (x : Int)) ∧ W.cell? ⟨B0, 3, none⟩ = some (.int .u8 (y : Int)) ∧ W.cell? ⟨B0, 4, none⟩ = some (.slice aq nq cq) ∧ W.cell? ⟨B0, 5, none⟩ = some (.string it) ∧ W.cell? ⟨B0, 6, none⟩ = some (.string tx) ∧ W.cell? ⟨B0, 7, none⟩ = some (.bool false) ∧ W.cell? ⟨0, n, none⟩ = some (.int .i64 V)) (by kernel_rfl) (HK.out _ hB) (fun hHeld => ?_)
  refine tk 0 o0 (v := ?_) ?_ ?_
  rotate_left
  · (intro W hSw; (try dsimp only at hSw); go_simp; (try with_reducible rfl))
  simp only [Act.put, q0, q1, q2]
  refine tk 2 o2 (v := ?_) ?_ ?_
  rotate_left
  · (intro W hSw; (try dsimp only at hSw); go_simp; (try with_reducible rfl))
  simp only [Act.put, q0, q1, q2]
  refine tk 3 o3 (v := ?_) ?_ ?_
  rotate_left
  · (intro W hSw; (try dsimp only at hSw); go_simp; (try with_reducible rfl))
  simp only [Act.put, q0, q1, q2]
  refine tk 4 o4 (v := ?_) ?_ ?_
  rotate_left
  · (intro W hSw; (try dsimp only at hSw); go_simp; (try with_reducible rfl))
  simp only [Act.put, q0, q1, q2]
  refine tk 5 o5 (v := ?_) ?_ ?_
  rotate_left
  · (intro W hSw; (try dsimp only at hSw); go_simp; (try with_reducible rfl))
  simp only [Act.put, q0, q1, q2]
  refine wpAnyH_ready (rs := [1]) (by kernel_rfl) (by simp) ?_
  refine AllReadyH.cons (o := o1) rfl (fun K hK => ?_) AllReadyH.nil
  go_simp
  go_at_call 33; refine (HFI.out _).mono ?_; rintro e w' ⟨rfl, hb'⟩; have hB := up hB hb'
  show K _ _
  refine hK.out _ _ (HK.out _ hB) (fun hHeld => ?_)
  clear hK K
  refine tk 6 o6 (v := ?_) ?_ ?_
  rotate_left
  · (intro W hSw; (try dsimp only at hSw); go_simp; (try with_reducible rfl))
  simp only [Act.put, q0, q1, q2]
  refine tk 7 o7 (v := ?_) ?_ ?_
  rotate_left
  · (intro W hSw; (try dsimp only at hSw); go_simp; (try with_reducible rfl))
  simp only [Act.put, q0, q1, q2]
  refine tk 8 o8 (v := ?_) ?_ ?_
  rotate_left
  · (intro W hSw; (try dsimp only at hSw); go_simp; (try with_reducible rfl))
  simp only [Act.put, q0, q1, q2]
  cases m1
  case false =>
    refine tu 9 o9 ?_
    simp only [Act.put, q0, q1, q2]
    refine wpAnyH_ready (rs := [10]) (by kernel_rfl) (by simp) ?_
    refine AllReadyH.cons (o := o10) rfl (fun K hK => ?_) AllReadyH.nil
    rw [if_neg (unwanted (by rfl))]
    refine hK.out _ _ (HK.out _ hB) (fun hHeld => ?_)
    clear hK K
    simp only [Act.put, q0, q1, q2]
    refine tk 11 o11 (v := ?_) ?_ ?_
    rotate_left
    · (intro W hSw; (try dsimp only at hSw); go_simp; (try with_reducible rfl))
    simp only [Act.put, q0, q1, q2]
    refine tk 12 o12 (v := ?_) ?_ ?_
    rotate_left
    · (intro W hSw; (try dsimp only at hSw); go_simp; (try with_reducible rfl))
    simp only [Act.put, q0, q1, q2]
    refine tu 13 o13 ?_
    simp only [Act.put, q0, q1, q2]
    refine tu 14 o14 ?_
    simp only [Act.put, q0, q1, q2]
    refine wpAnyH_ready (rs := [15]) (by kernel_rfl) (by simp) ?_
    refine AllReadyH.cons (o := o15) rfl (fun K hK => ?_) AllReadyH.nil
    rw [if_neg (unwanted (by rfl))]
    refine hK.out _ _ (HK.out _ hB) (fun hHeld => ?_)
    clear hK K
    simp only [Act.put, q0, q1, q2]
    refine tk 16 o16 (v := ?_) ?_ ?_
    rotate_left
    · (intro W hSw; (try dsimp only at hSw); go_simp; (try with_reducible rfl))
    simp only [Act.put, q0, q1, q2]
    refine tk 17 o17 (v := ?_) ?_ ?_
    rotate_left
    · (intro W hSw; (try dsimp only at hSw); go_simp; (try with_reducible rfl))
    simp only [Act.put, q0, q1, q2]
    refine tu 18 o18 ?_
    simp only [Act.put, q0, q1, q2]
    refine tu 19 o19 ?_
    simp only [Act.put, q0, q1, q2]
    refine tu 20 o20 ?_
    simp only [Act.put, q0, q1, q2]
    refine tu 21 o21 ?_
    simp only [Act.put, q0, q1, q2]
    refine tu 22 o22 ?_
    simp only [Act.put, q0, q1, q2]
    refine tu 23 o23 ?_
    simp only [Act.put, q0, q1, q2]
    refine wpAnyH_ready (rs := [24]) (by kernel_rfl) (by simp) ?_
    refine AllReadyH.cons (o := o24) rfl (fun K hK => ?_) AllReadyH.nil
    rw [if_neg (unwanted (by rfl))]
    refine hK.out _ _ (HK.out _ hB) (fun hHeld => ?_)
    clear hK K
    simp only [Act.put, q0, q1, q2]
    refine tu 25 o25 ?_
    simp only [Act.put, q0, q1, q2]
    refine tk 26 o26 (v := ?_) ?_ ?_
    rotate_left
    · (intro W hSw; (try dsimp only at hSw); go_simp; (try with_reducible rfl))
    simp only [Act.put, q0, q1, q2]
    refine tk 27 o27 (v := ?_) ?_ ?_
    rotate_left
    · (intro W hSw; (try dsimp only at hSw); go_simp; (try with_reducible rfl))
    simp only [Act.put, q0, q1, q2]
    refine tu 28 o28 ?_
    simp only [Act.put, q0, q1, q2]
    refine tu 29 o29 ?_
    simp only [Act.put, q0, q1, q2]
    refine wpAnyH_ready (rs := [30]) (by kernel_rfl) (by simp) ?_
    refine AllReadyH.cons (o := o30) rfl (fun K hK => ?_) AllReadyH.nil
    rw [if_neg (unwanted (by rfl))]
    refine hK.out _ _ (HK.out _ hB) (fun hHeld => ?_)
    clear hK K
    simp only [Act.put, q0, q1, q2]
    refine tu 31 o31 ?_
    simp only [Act.put, q0, q1, q2]
    refine tk 32 o32 (v := ?_) ?_ ?_
    rotate_left
    · (intro W hSw; (try dsimp only at hSw); go_simp; (try with_reducible rfl))
    simp only [Act.put, q0, q1, q2]
    refine tk 33 o33 (v := ?_) ?_ ?_
    rotate_left
    · (intro W hSw; (try dsimp only at hSw); go_simp; (try with_reducible rfl))
    simp only [Act.put, q0, q1, q2]
    refine tu 34 o34 ?_
    simp only [Act.put, q0, q1, q2]
    refine tu 35 o35 ?_
    simp only [Act.put, q0, q1, q2]
    refine tu 36 o36 ?_
    simp only [Act.put, q0, q1, q2]
    refine tu 37 o37 ?_
    simp only [Act.put, q0, q1, q2]
    refine tk 38 o38 (v := ?_) ?_ ?_
    rotate_left
    · (intro W hSw; (try dsimp only at hSw); go_simp; (try with_reducible rfl))
    simp only [Act.put, q0, q1, q2]
    refine tk 39 o39 (v := ?_) ?_ ?_
    rotate_left
    · (intro W hSw; (try dsimp only at hSw); go_simp; (try with_reducible rfl))
    simp only [Act.put, q0, q1, q2]
    refine tu 40 o40 ?_
    simp only [Act.put, q0, q1, q2]
    refine tu 41 o41 ?_
    simp only [Act.put, q0, q1, q2]
    refine wpAnyH_ready (rs := [42]) (by kernel_rfl) (by simp) ?_
    refine AllReadyH.cons (o := o42) rfl (fun K hK => ?_) AllReadyH.nil
    rw [if_neg (unwanted (by rfl))]
    refine hK.out _ _ (HK.out _ hB) (fun hHeld => ?_)
    clear hK K
    simp only [Act.put, q0, q1, q2]
    refine tk 43 o43 (v := ?_) ?_ ?_
    rotate_left
    · (intro W hSw; (try dsimp only at hSw); go_simp; (try with_reducible rfl))
    simp only [Act.put, q0, q1, q2]
    refine tk 44 o44 (v := ?_) ?_ ?_
    rotate_left
    · (intro W hSw; (try dsimp only at hSw); go_simp; (try with_reducible rfl))
    simp only [Act.put, q0, q1, q2]
    refine tu 45 o45 ?_
    simp only [Act.put, q0, q1, q2]
    refine tu 46 o46 ?_
    simp only [Act.put, q0, q1, q2]
    refine tu 47 o47 ?_
    simp only [Act.put, q0, q1, q2]
    refine tu 48 o48 ?_
    simp only [Act.put, q0, q1, q2]
    refine tu 49 o49 ?_
    simp only [Act.put, q0, q1, q2]
    refine tu 50 o50 ?_
    simp only [Act.put, q0, q1, q2]
    refine wpAnyH_ready (rs := [51]) (by kernel_rfl) (by simp) ?_
    refine AllReadyH.cons (o := o51) rfl (fun K hK => ?_) AllReadyH.nil
    rw [if_neg (unwanted (by rfl))]
    refine hK.out _ _ (HK.out _ hB) (fun hHeld => ?_)
    clear hK K
    simp only [Act.put, q0, q1, q2]
    refine tu 52 o52 ?_
    simp only [Act.put, q0, q1, q2]
    refine tk 53 o53 (v := ?_) ?_ ?_
    rotate_left
    · (intro W hSw; (try dsimp only at hSw); go_simp; (try with_reducible rfl))
    simp only [Act.put, q0, q1, q2]
    refine tk 54 o54 (v := ?_) ?_ ?_
    rotate_left
    · (intro W hSw; (try dsimp only at hSw); go_simp; (try with_reducible rfl))
    simp only [Act.put, q0, q1, q2]
    refine tu 55 o55 ?_
    simp only [Act.put, q0, q1, q2]
    refine tu 56 o56 ?_
    simp only [Act.put, q0, q1, q2]
    refine tu 57 o57 ?_
    simp only [Act.put, q0, q1, q2]
    refine tu 58 o58 ?_
    simp only [Act.put, q0, q1, q2]
    refine tk 59 o59 (v := ?_) ?_ ?_
    rotate_left
    · (intro W hSw; (try dsimp only at hSw); go_simp; (try with_reducible rfl))
    simp only [Act.put, q0, q1, q2]
    refine tk 60 o60 (v := ?_) ?_ ?_
    rotate_left
    · (intro W hSw; (try dsimp only at hSw); go_simp; (try with_reducible rfl))
    simp only [Act.put, q0, q1, q2]
    refine tu 61 o61 ?_
    simp only [Act.put, q0, q1, q2]
    refine tu 62 o62 ?_
    simp only [Act.put, q0, q1, q2]
    refine wpAnyH_ready (rs := [63]) (by kernel_rfl) (by simp) ?_
    refine AllReadyH.cons (o := o63) rfl (fun K hK => ?_) AllReadyH.nil
    rw [if_neg (unwanted (by rfl))]
    refine hK.out _ _ (HK.out _ hB) (fun hHeld => ?_)
    clear hK K
    simp only [Act.put, q0, q1, q2]
    refine tk 64 o64 (v := ?_) ?_ ?_
    rotate_left
    · (intro W hSw; (try dsimp only at hSw); go_simp; (try with_reducible rfl))
    simp only [Act.put, q0, q1, q2]
    refine tk 65 o65 (v := ?_) ?_ ?_
    rotate_left
    · (intro W hSw; (try dsimp only at hSw); go_simp; (try with_reducible rfl))
    simp only [Act.put, q0, q1, q2]
    refine wpAnyH_done (by kernel_rfl) ?_ _
    go_wp2
    go_ret
    exact ⟨rfl, by rw [HB0.out]; exact HB1.out.trans (hB.mono HS1.out)⟩
  case true =>
    refine tk 9 o9 (v := ?_) ?_ ?_
    rotate_left
    · (intro W hSw; (try dsimp only at hSw); go_simp; (try with_reducible rfl))
    simp only [Act.put, q0, q1, q2]
    refine wpAnyH_ready (rs := [10]) (by kernel_rfl) (by simp) ?_
    refine AllReadyH.cons (o := o10) rfl (fun K hK => ?_) AllReadyH.nil
    go_simp
    go_at_call 34; refine (HWH.out _).mono ?_; rintro e w' ⟨rfl, hb'⟩; have hB := up hB hb'
    show K _ _
    refine hK.out _ _ (HK.out _ hB) (fun hHeld => ?_)
    clear hK K
    cases m2
    case false =>
      refine tk 11 o11 (v := ?_) ?_ ?_
      rotate_left
      · (intro W hSw; (try dsimp only at hSw); go_simp; (try with_reducible rfl))
      simp only [Act.put, q0, q1, q2]
      refine tk 12 o12 (v := ?_) ?_ ?_
      rotate_left
      · (intro W hSw; (try dsimp only at hSw); go_simp; (try with_reducible rfl))
      simp only [Act.put, q0, q1, q2]
      refine tu 13 o13 ?_
      simp only [Act.put, q0, q1, q2]
      refine tu 14 o14 ?_
      simp only [Act.put, q0, q1, q2]
      refine wpAnyH_ready (rs := [15]) (by kernel_rfl) (by simp) ?_
      refine AllReadyH.cons (o := o15) rfl (fun K hK => ?_) AllReadyH.nil
      rw [if_neg (unwanted (by rfl))]
      refine hK.out _ _ (HK.out _ hB) (fun hHeld => ?_)
      clear hK K
      simp only [Act.put, q0, q1, q2]
      refine tk 16 o16 (v := ?_) ?_ ?_
      rotate_left
      · (intro W hSw; (try dsimp only at hSw); go_simp; (try with_reducible rfl))
      simp only [Act.put, q0, q1, q2]
      refine tk 17 o17 (v := ?_) ?_ ?_
      rotate_left
      · (intro W hSw; (try dsimp only at hSw); go_simp; (try with_reducible rfl))
      simp only [Act.put, q0, q1, q2]
      refine tu 18 o18 ?_
      simp only [Act.put, q0, q1, q2]
      refine tu 19 o19 ?_
      simp only [Act.put, q0, q1, q2]
      refine tu 20 o20 ?_
      simp only [Act.put, q0, q1, q2]
      refine tu 21 o21 ?_
      simp only [Act.put, q0, q1, q2]
      refine tu 22 o22 ?_
      simp only [Act.put, q0, q1, q2]
      refine tu 23 o23 ?_
      simp only [Act.put, q0, q1, q2]
      refine wpAnyH_ready (rs := [24]) (by kernel_rfl) (by simp) ?_
      refine AllReadyH.cons (o := o24) rfl (fun K hK => ?_) AllReadyH.nil
      rw [if_neg (unwanted (by rfl))]
      refine hK.out _ _ (HK.out _ hB) (fun hHeld => ?_)
      clear hK K
      simp only [Act.put, q0, q1, q2]
      refine tu 25 o25 ?_
      simp only [Act.put, q0, q1, q2]
      refine tk 26 o26 (v := ?_) ?_ ?_
      rotate_left
      · (intro W hSw; (try dsimp only at hSw); go_simp; (try with_reducible rfl))
      simp only [Act.put, q0, q1, q2]
      refine tk 27 o27 (v := ?_) ?_ ?_
      rotate_left
      · (intro W hSw; (try dsimp only at hSw); go_simp; (try with_reducible rfl))
      simp only [Act.put, q0, q1, q2]
      refine tu 28 o28 ?_
      simp only [Act.put, q0, q1, q2]
      refine tu 29 o29 ?_
      simp only [Act.put, q0, q1, q2]
      refine wpAnyH_ready (rs := [30]) (by kernel_rfl) (by simp) ?_
      refine AllReadyH.cons (o := o30) rfl (fun K hK => ?_) AllReadyH.nil
      rw [if_neg (unwanted (by rfl))]
      refine hK.out _ _ (HK.out _ hB) (fun hHeld => ?_)
      clear hK K
      simp only [Act.put, q0, q1, q2]
      refine tu 31 o31 ?_
      simp only [Act.put, q0, q1, q2]
      refine tk 32 o32 (v := ?_) ?_ ?_
      rotate_left
      · (intro W hSw; (try dsimp only at hSw); go_simp; (try with_reducible rfl))
      simp only [Act.put, q0, q1, q2]
      refine tk 33 o33 (v := ?_) ?_ ?_
      rotate_left
      · (intro W hSw; (try dsimp only at hSw); go_simp; (try with_reducible rfl))
      simp only [Act.put, q0, q1, q2]
      refine tu 34 o34 ?_
      simp only [Act.put, q0, q1, q2]
      refine tu 35 o35 ?_
      simp only [Act.put, q0, q1, q2]
      refine tu 36 o36 ?_
      simp only [Act.put, q0, q1, q2]
      refine tu 37 o37 ?_
      simp only [Act.put, q0, q1, q2]
      refine tk 38 o38 (v := ?_) ?_ ?_
      rotate_left
      · (intro W hSw; (try dsimp only at hSw); go_simp; (try with_reducible rfl))
      simp only [Act.put, q0, q1, q2]
      refine tk 39 o39 (v := ?_) ?_ ?_
      rotate_left
      · (intro W hSw; (try dsimp only at hSw); go_simp; (try with_reducible rfl))
      simp only [Act.put, q0, q1, q2]
      refine tu 40 o40 ?_
      simp only [Act.put, q0, q1, q2]
      refine tu 41 o41 ?_
      simp only [Act.put, q0, q1, q2]
      refine wpAnyH_ready (rs := [42]) (by kernel_rfl) (by simp) ?_
      refine AllReadyH.cons (o := o42) rfl (fun K hK => ?_) AllReadyH.nil
      rw [if_neg (unwanted (by rfl))]
      refine hK.out _ _ (HK.out _ hB) (fun hHeld => ?_)
      clear hK K
      simp only [Act.put, q0, q1, q2]
      refine tk 43 o43 (v := ?_) ?_ ?_
      rotate_left
      · (intro W hSw; (try dsimp only at hSw); go_simp; (try with_reducible rfl))
      simp only [Act.put, q0, q1, q2]
      refine tk 44 o44 (v := ?_) ?_ ?_
      rotate_left
      · (intro W hSw; (try dsimp only at hSw); go_simp; (try with_reducible rfl))
      simp only [Act.put, q0, q1, q2]
      refine tu 45 o45 ?_
      simp only [Act.put, q0, q1, q2]
      refine tu 46 o46 ?_
      simp only [Act.put, q0, q1, q2]
      refine tu 47 o47 ?_
      simp only [Act.put, q0, q1, q2]
      refine tu 48 o48 ?_
      simp only [Act.put, q0, q1, q2]
      refine tu 49 o49 ?_
      simp only [Act.put, q0, q1, q2]
      refine tu 50 o50 ?_
      simp only [Act.put, q0, q1, q2]
      refine wpAnyH_ready (rs := [51]) (by kernel_rfl) (by simp) ?_
      refine AllReadyH.cons (o := o51) rfl (fun K hK => ?_) AllReadyH.nil
      rw [if_neg (unwanted (by rfl))]
      refine hK.out _ _ (HK.out _ hB) (fun hHeld => ?_)
      clear hK K
      simp only [Act.put, q0, q1, q2]
      refine tu 52 o52 ?_
      simp only [Act.put, q0, q1, q2]
      refine tk 53 o53 (v := ?_) ?_ ?_
      rotate_left
      · (intro W hSw; (try dsimp only at hSw); go_simp; (try with_reducible rfl))
      simp only [Act.put, q0, q1, q2]
      refine tk 54 o54 (v := ?_) ?_ ?_
      rotate_left
      · (intro W hSw; (try dsimp only at hSw); go_simp; (try with_reducible rfl))
      simp only [Act.put, q0, q1, q2]
      refine tu 55 o55 ?_
      simp only [Act.put, q0, q1, q2]
      refine tu 56 o56 ?_
      simp only [Act.put, q0, q1, q2]
      refine tu 57 o57 ?_
      simp only [Act.put, q0, q1, q2]
      refine tu 58 o58 ?_
      simp only [Act.put, q0, q1, q2]
      refine tk 59 o59 (v := ?_) ?_ ?_
      rotate_left
      · (intro W hSw; (try dsimp only at hSw); go_simp; (try with_reducible rfl))
      simp only [Act.put, q0, q1, q2]
      refine tk 60 o60 (v := ?_) ?_ ?_
      rotate_left
      · (intro W hSw; (try dsimp only at hSw); go_simp; (try with_reducible rfl))
      simp only [Act.put, q0, q1, q2]
      refine tu 61 o61 ?_
      simp only [Act.put, q0, q1, q2]
      refine tu 62 o62 ?_
      simp only [Act.put, q0, q1, q2]
      refine wpAnyH_ready (rs := [63]) (by kernel_rfl) (by simp) ?_
      refine AllReadyH.cons (o := o63) rfl (fun K hK => ?_) AllReadyH.nil
      rw [if_neg (unwanted (by rfl))]
      refine hK.out _ _ (HK.out _ hB) (fun hHeld => ?_)
      clear hK K
      simp only [Act.put, q0, q1, q2]
      refine tk 64 o64 (v := ?_) ?_ ?_
      rotate_left
      · (intro W hSw; (try dsimp only at hSw); go_simp; (try with_reducible rfl))
      simp only [Act.put, q0, q1, q2]
      refine tk 65 o65 (v := ?_) ?_ ?_
      rotate_left
      · (intro W hSw; (try dsimp only at hSw); go_simp; (try with_reducible rfl))
      simp only [Act.put, q0, q1, q2]
      refine wpAnyH_done (by kernel_rfl) ?_ _
      go_wp2
      go_ret
      exact ⟨rfl, by rw [HB0.out]; exact HB1.out.trans (hB.mono HS1.out)⟩
    case true =>
      refine tk 11 o11 (v := ?_) ?_ ?_
      rotate_left
      · (intro W hSw; (try dsimp only at hSw); go_simp; (try with_reducible rfl))
      simp only [Act.put, q0, q1, q2]
      refine tk 12 o12 (v := ?_) ?_ ?_
      rotate_left
      · (intro W hSw; (try dsimp only at hSw); go_simp; (try with_reducible rfl))
      simp only [Act.put, q0, q1, q2]
      refine tk 13 o13 (v := ?_) ?_ ?_
      rotate_left
      · (intro W hSw; (try dsimp only at hSw); go_simp; (try with_reducible rfl))
      simp only [Act.put, q0, q1, q2]
      refine tk 14 o14 (v := ?_) ?_ ?_
      rotate_left
      · (intro W hSw; (try dsimp only at hSw); go_simp; (try with_reducible rfl))
      simp only [Act.put, q0, q1, q2]
      refine wpAnyH_ready (rs := [15]) (by kernel_rfl) (by simp) ?_
      refine AllReadyH.cons (o := o15) rfl (fun K hK => ?_) AllReadyH.nil
      go_simp
      go_at_call 35; refine (HRI.out _ (HB1.out.trans (hB.mono HS1.out))).mono ?_; rintro e w' ⟨rfl, hb'⟩; have hB := up hB hb'
      show K _ _
      refine hK.out _ _ (HK.out _ hB) (fun hHeld => ?_)
      clear hK K
      cases m3
      case false =>
        refine tk 16 o16 (v := ?_) ?_ ?_
        rotate_left
        · (intro W hSw; (try dsimp only at hSw); go_simp; (try with_reducible rfl))
        simp only [Act.put, q0, q1, q2]
        refine tk 17 o17 (v := ?_) ?_ ?_
        rotate_left
        · (intro W hSw; (try dsimp only at hSw); go_simp; (try with_reducible rfl))
        simp only [Act.put, q0, q1, q2]
        refine tu 18 o18 ?_
        simp only [Act.put, q0, q1, q2]
        refine tu 19 o19 ?_
        simp only [Act.put, q0, q1, q2]
        refine tu 20 o20 ?_
        simp only [Act.put, q0, q1, q2]
        refine tu 21 o21 ?_
        simp only [Act.put, q0, q1, q2]
        refine tu 22 o22 ?_
        simp only [Act.put, q0, q1, q2]
        refine tu 23 o23 ?_
        simp only [Act.put, q0, q1, q2]
        refine wpAnyH_ready (rs := [24]) (by kernel_rfl) (by simp) ?_
        refine AllReadyH.cons (o := o24) rfl (fun K hK => ?_) AllReadyH.nil
        rw [if_neg (unwanted (by rfl))]
        refine hK.out _ _ (HK.out _ hB) (fun hHeld => ?_)
        clear hK K
        simp only [Act.put, q0, q1, q2]
        refine tu 25 o25 ?_
        simp only [Act.put, q0, q1, q2]
        refine tk 26 o26 (v := ?_) ?_ ?_
        rotate_left
        · (intro W hSw; (try dsimp only at hSw); go_simp; (try with_reducible rfl))
        simp only [Act.put, q0, q1, q2]
        refine tk 27 o27 (v := ?_) ?_ ?_
        rotate_left
        · (intro W hSw; (try dsimp only at hSw); go_simp; (try with_reducible rfl))
        simp only [Act.put, q0, q1, q2]
        refine tu 28 o28 ?_
        simp only [Act.put, q0, q1, q2]
        refine tu 29 o29 ?_
        simp only [Act.put, q0, q1, q2]
        refine wpAnyH_ready (rs := [30]) (by kernel_rfl) (by simp) ?_
        refine AllReadyH.cons (o := o30) rfl (fun K hK => ?_) AllReadyH.nil
        rw [if_neg (unwanted (by rfl))]
        refine hK.out _ _ (HK.out _ hB) (fun hHeld => ?_)
        clear hK K
        simp only [Act.put, q0, q1, q2]
        refine tu 31 o31 ?_
        simp only [Act.put, q0, q1, q2]
        refine tk 32 o32 (v := ?_) ?_ ?_
        rotate_left
        · (intro W hSw; (try dsimp only at hSw); go_simp; (try with_reducible rfl))
        simp only [Act.put, q0, q1, q2]
        refine tk 33 o33 (v := ?_) ?_ ?_
        rotate_left
        · (intro W hSw; (try dsimp only at hSw); go_simp; (try with_reducible rfl))
        simp only [Act.put, q0, q1, q2]
        refine tu 34 o34 ?_
        simp only [Act.put, q0, q1, q2]
        refine tu 35 o35 ?_
        simp only [Act.put, q0, q1, q2]
        refine tu 36 o36 ?_
        simp only [Act.put, q0, q1, q2]
        refine tu 37 o37 ?_
        simp only [Act.put, q0, q1, q2]
        refine tk 38 o38 (v := ?_) ?_ ?_
        rotate_left
        · (intro W hSw; (try dsimp only at hSw); go_simp; (try with_reducible rfl))
        simp only [Act.put, q0, q1, q2]
        refine tk 39 o39 (v := ?_) ?_ ?_
        rotate_left
        · (intro W hSw; (try dsimp only at hSw); go_simp; (try with_reducible rfl))
        simp only [Act.put, q0, q1, q2]
        refine tu 40 o40 ?_
        simp only [Act.put, q0, q1, q2]
        refine tu 41 o41 ?_
        simp only [Act.put, q0, q1, q2]
        refine wpAnyH_ready (rs := [42]) (by kernel_rfl) (by simp) ?_
        refine AllReadyH.cons (o := o42) rfl (fun K hK => ?_) AllReadyH.nil
        rw [if_neg (unwanted (by rfl))]
        refine hK.out _ _ (HK.out _ hB) (fun hHeld => ?_)
        clear hK K
        simp only [Act.put, q0, q1, q2]
        refine tk 43 o43 (v := ?_) ?_ ?_
        rotate_left
        · (intro W hSw; (try dsimp only at hSw); go_simp; (try with_reducible rfl))
        simp only [Act.put, q0, q1, q2]
        refine tk 44 o44 (v := ?_) ?_ ?_
        rotate_left
        · (intro W hSw; (try dsimp only at hSw); go_simp; (try with_reducible rfl))
        simp only [Act.put, q0, q1, q2]
        refine tu 45 o45 ?_
        simp only [Act.put, q0, q1, q2]
        refine tu 46 o46 ?_
        simp only [Act.put, q0, q1, q2]
        refine tu 47 o47 ?_
        simp only [Act.put, q0, q1, q2]
        refine tu 48 o48 ?_
        simp only [Act.put, q0, q1, q2]
        refine tu 49 o49 ?_
        simp only [Act.put, q0, q1, q2]
        refine tu 50 o50 ?_
        simp only [Act.put, q0, q1, q2]
        refine wpAnyH_ready (rs := [51]) (by kernel_rfl) (by simp) ?_
        refine AllReadyH.cons (o := o51) rfl (fun K hK => ?_) AllReadyH.nil
        rw [if_neg (unwanted (by rfl))]
        refine hK.out _ _ (HK.out _ hB) (fun hHeld => ?_)
        clear hK K
        simp only [Act.put, q0, q1, q2]
        refine tu 52 o52 ?_
        simp only [Act.put, q0, q1, q2]
        refine tk 53 o53 (v := ?_) ?_ ?_
        rotate_left
        · (intro W hSw; (try dsimp only at hSw); go_simp; (try with_reducible rfl))
        simp only [Act.put, q0, q1, q2]
        refine tk 54 o54 (v := ?_) ?_ ?_
        rotate_left
        · (intro W hSw; (try dsimp only at hSw); go_simp; (try with_reducible rfl))
        simp only [Act.put, q0, q1, q2]
        refine tu 55 o55 ?_
        simp only [Act.put, q0, q1, q2]
        refine tu 56 o56 ?_
        simp only [Act.put, q0, q1, q2]
        refine tu 57 o57 ?_
        simp only [Act.put, q0, q1, q2]
        refine tu 58 o58 ?_
        simp only [Act.put, q0, q1, q2]
        refine tk 59 o59 (v := ?_) ?_ ?_
        rotate_left
        · (intro W hSw; (try dsimp only at hSw); go_simp; (try with_reducible rfl))
        simp only [Act.put, q0, q1, q2]
        refine tk 60 o60 (v := ?_) ?_ ?_
        rotate_left
        · (intro W hSw; (try dsimp only at hSw); go_simp; (try with_reducible rfl))
        simp only [Act.put, q0, q1, q2]
        refine tu 61 o61 ?_
        simp only [Act.put, q0, q1, q2]
        refine tu 62 o62 ?_
        simp only [Act.put, q0, q1, q2]
        refine wpAnyH_ready (rs := [63]) (by kernel_rfl) (by simp) ?_
        refine AllReadyH.cons (o := o63) rfl (fun K hK => ?_) AllReadyH.nil
        rw [if_neg (unwanted (by rfl))]
        refine hK.out _ _ (HK.out _ hB) (fun hHeld => ?_)
        clear hK K
        simp only [Act.put, q0, q1, q2]
        refine tk 64 o64 (v := ?_) ?_ ?_
        rotate_left
        · (intro W hSw; (try dsimp only at hSw); go_simp; (try with_reducible rfl))
        simp only [Act.put, q0, q1, q2]
        refine tk 65 o65 (v := ?_) ?_ ?_
        rotate_left
        · (intro W hSw; (try dsimp only at hSw); go_simp; (try with_reducible rfl))
        simp only [Act.put, q0, q1, q2]
        refine wpAnyH_done (by kernel_rfl) ?_ _
        go_wp2
        go_ret
        exact ⟨rfl, by rw [HB0.out]; exact HB1.out.trans (hB.mono HS1.out)⟩
      case true =>
        refine tk 16 o16 (v := ?_) ?_ ?_
        rotate_left
        · (intro W hSw; (try dsimp only at hSw); go_simp; (try with_reducible rfl))
        simp only [Act.put, q0, q1, q2]
        refine tk 17 o17 (v := ?_) ?_ ?_
        rotate_left
        · (intro W hSw; (try dsimp only at hSw); go_simp; (try with_reducible rfl))
        simp only [Act.put, q0, q1, q2]
        refine tk 18 o18 (v := ?_) ?_ ?_
        rotate_left
        · (intro W hSw; (try dsimp only at hSw); go_simp; (try with_reducible rfl))
        simp only [Act.put, q0, q1, q2]
        refine tk 19 o19 (v := ?_) ?_ ?_
        rotate_left
        · (intro W hSw; (try dsimp only at hSw); go_simp; (try with_reducible rfl))
        simp only [Act.put, q0, q1, q2]
        refine tk 20 o20 (v := ?_) ?_ ?_
        rotate_left
        · (intro W hSw; (try dsimp only at hSw); go_simp; (try with_reducible rfl))
        simp only [Act.put, q0, q1, q2]
        refine tk 21 o21 (v := ?_) ?_ ?_
        rotate_left
        · (intro W hSw; (try dsimp only at hSw); go_simp; (try with_reducible rfl))
        simp only [Act.put, q0, q1, q2]
        refine tu 22 o22 ?_
        simp only [Act.put, q0, q1, q2]
        refine tu 23 o23 ?_
        simp only [Act.put, q0, q1, q2]
        refine wpAnyH_ready (rs := [24]) (by kernel_rfl) (by simp) ?_
        refine AllReadyH.cons (o := o24) rfl (fun K hK => ?_) AllReadyH.nil
        rw [if_neg (unwanted (by rfl))]
        refine hK.out _ _ (HK.out _ hB) (fun hHeld => ?_)
        clear hK K
        simp only [Act.put, q0, q1, q2]
        refine tk 25 o25 (v := ?_) ?_ ?_
        rotate_left
        · (intro W hSw; (try dsimp only at hSw); go_simp; (try with_reducible rfl))
        simp only [Act.put, q0, q1, q2]
        refine tk 26 o26 (v := ?_) ?_ ?_
        rotate_left
        · (intro W hSw; (try dsimp only at hSw); go_simp; (try with_reducible rfl))
        simp only [Act.put, q0, q1, q2]
        refine tk 27 o27 (v := ?_) ?_ ?_
        rotate_left
        · (intro W hSw; (try dsimp only at hSw); go_simp; (try with_reducible rfl))
        simp only [Act.put, q0, q1, q2]
        refine tk 28 o28 (v := ?_) ?_ ?_
        rotate_left
        · (intro W hSw; (try dsimp only at hSw); go_simp; (try with_reducible rfl))
        simp only [Act.put, q0, q1, q2]
        refine tk 29 o29 (v := ?_) ?_ ?_
        rotate_left
        · (intro W hSw; (try dsimp only at hSw); go_simp; (try with_reducible rfl))
        simp only [Act.put, q0, q1, q2]
        refine wpAnyH_ready (rs := [30]) (by kernel_rfl) (by simp) ?_
        refine AllReadyH.cons (o := o30) rfl (fun K hK => ?_) AllReadyH.nil
        go_simp
        go_at_call 37; refine (HCH.out _ (HB1.out.trans (hB.mono HS1.out))).mono ?_; rintro e w' ⟨rfl, hb'⟩; have hB := up hB hb'
        show K _ _
        refine hK.out _ _ (HK.out _ hB) (fun hHeld => ?_)
        clear hK K
        refine tk 31 o31 (v := ?_) ?_ ?_
        rotate_left
        · (intro W hSw; (try dsimp only at hSw); go_simp; (try with_reducible rfl))
        simp only [Act.put, q0, q1, q2]
        cases m5
        case false =>
          refine tk 32 o32 (v := ?_) ?_ ?_
          rotate_left
          · (intro W hSw; (try dsimp only at hSw); go_simp; (try with_reducible rfl))
          simp only [Act.put, q0, q1, q2]
          refine tk 33 o33 (v := ?_) ?_ ?_
          rotate_left
          · (intro W hSw; (try dsimp only at hSw); go_simp; (try with_reducible rfl))
          simp only [Act.put, q0, q1, q2]
          refine tu 34 o34 ?_
          simp only [Act.put, q0, q1, q2]
          refine tu 35 o35 ?_
          simp only [Act.put, q0, q1, q2]
          refine tu 36 o36 ?_
          simp only [Act.put, q0, q1, q2]
          refine tu 37 o37 ?_
          simp only [Act.put, q0, q1, q2]
          refine tk 38 o38 (v := ?_) ?_ ?_
          rotate_left
          · (intro W hSw; (try dsimp only at hSw); go_simp; (try with_reducible rfl))
          simp only [Act.put, q0, q1, q2]
          refine tk 39 o39 (v := ?_) ?_ ?_
          rotate_left
          · (intro W hSw; (try dsimp only at hSw); go_simp; (try with_reducible rfl))
          simp only [Act.put, q0, q1, q2]
          refine tu 40 o40 ?_
          simp only [Act.put, q0, q1, q2]
          refine tu 41 o41 ?_
          simp only [Act.put, q0, q1, q2]
          refine wpAnyH_ready (rs := [42]) (by kernel_rfl) (by simp) ?_
          refine AllReadyH.cons (o := o42) rfl (fun K hK => ?_) AllReadyH.nil
          rw [if_neg (unwanted (by rfl))]
          refine hK.out _ _ (HK.out _ hB) (fun hHeld => ?_)
          clear hK K
          simp only [Act.put, q0, q1, q2]
          refine tk 43 o43 (v := ?_) ?_ ?_
          rotate_left
          · (intro W hSw; (try dsimp only at hSw); go_simp; (try with_reducible rfl))
          simp only [Act.put, q0, q1, q2]
          refine tk 44 o44 (v := ?_) ?_ ?_
          rotate_left
          · (intro W hSw; (try dsimp only at hSw); go_simp; (try with_reducible rfl))
          simp only [Act.put, q0, q1, q2]
          refine tu 45 o45 ?_
          simp only [Act.put, q0, q1, q2]
          refine tu 46 o46 ?_
          simp only [Act.put, q0, q1, q2]
          refine tu 47 o47 ?_
          simp only [Act.put, q0, q1, q2]
          refine tu 48 o48 ?_
          simp only [Act.put, q0, q1, q2]
          refine tu 49 o49 ?_
          simp only [Act.put, q0, q1, q2]
          refine tu 50 o50 ?_
          simp only [Act.put, q0, q1, q2]
          refine wpAnyH_ready (rs := [51]) (by kernel_rfl) (by simp) ?_
          refine AllReadyH.cons (o := o51) rfl (fun K hK => ?_) AllReadyH.nil
          rw [if_neg (unwanted (by rfl))]
          refine hK.out _ _ (HK.out _ hB) (fun hHeld => ?_)
          clear hK K
          simp only [Act.put, q0, q1, q2]
          refine tu 52 o52 ?_
          simp only [Act.put, q0, q1, q2]
          refine tk 53 o53 (v := ?_) ?_ ?_
          rotate_left
          · (intro W hSw; (try dsimp only at hSw); go_simp; (try with_reducible rfl))
          simp only [Act.put, q0, q1, q2]
          refine tk 54 o54 (v := ?_) ?_ ?_
          rotate_left
          · (intro W hSw; (try dsimp only at hSw); go_simp; (try with_reducible rfl))
          simp only [Act.put, q0, q1, q2]
          refine tu 55 o55 ?_
          simp only [Act.put, q0, q1, q2]
          refine tu 56 o56 ?_
          simp only [Act.put, q0, q1, q2]
          refine tu 57 o57 ?_
          simp only [Act.put, q0, q1, q2]
          refine tu 58 o58 ?_
          simp only [Act.put, q0, q1, q2]
          refine tk 59 o59 (v := ?_) ?_ ?_
          rotate_left
          · (intro W hSw; (try dsimp only at hSw); go_simp; (try with_reducible rfl))
          simp only [Act.put, q0, q1, q2]
          refine tk 60 o60 (v := ?_) ?_ ?_
          rotate_left
          · (intro W hSw; (try dsimp only at hSw); go_simp; (try with_reducible rfl))
          simp only [Act.put, q0, q1, q2]
          refine tu 61 o61 ?_
          simp only [Act.put, q0, q1, q2]
          refine tu 62 o62 ?_
          simp only [Act.put, q0, q1, q2]
          refine wpAnyH_ready (rs := [63]) (by kernel_rfl) (by simp) ?_
          refine AllReadyH.cons (o := o63) rfl (fun K hK => ?_) AllReadyH.nil
          rw [if_neg (unwanted (by rfl))]
          refine hK.out _ _ (HK.out _ hB) (fun hHeld => ?_)
          clear hK K
          simp only [Act.put, q0, q1, q2]
          refine tk 64 o64 (v := ?_) ?_ ?_
          rotate_left
          · (intro W hSw; (try dsimp only at hSw); go_simp; (try with_reducible rfl))
          simp only [Act.put, q0, q1, q2]
          refine tk 65 o65 (v := ?_) ?_ ?_
          rotate_left
          · (intro W hSw; (try dsimp only at hSw); go_simp; (try with_reducible rfl))
          simp only [Act.put, q0, q1, q2]
          refine wpAnyH_done (by kernel_rfl) ?_ _
          go_wp2
          go_ret
          exact ⟨rfl, by rw [HB0.out]; exact HB1.out.trans (hB.mono HS1.out)⟩
        case true =>
          refine tk 32 o32 (v := ?_) ?_ ?_
          rotate_left
          · (intro W hSw; (try dsimp only at hSw); go_simp; (try with_reducible rfl))
          simp only [Act.put, q0, q1, q2]
          refine tk 33 o33 (v := ?_) ?_ ?_
          rotate_left
          · (intro W hSw; (try dsimp only at hSw); go_simp; (try with_reducible rfl))
          simp only [Act.put, q0, q1, q2]
          refine tk 34 o34 (v := ?_) ?_ ?_
          rotate_left
          · (intro W hSw; (try dsimp only at hSw); go_simp; (try with_reducible rfl))
          simp only [Act.put, q0, q1, q2]
          refine tk 35 o35 (v := ?_) ?_ ?_
          rotate_left
          · (intro W hSw; (try dsimp only at hSw); go_simp; (try with_reducible rfl))
          simp only [Act.put, q0, q1, q2]
          refine tk 36 o36 (v := ?_) ?_ ?_
          rotate_left
          · (intro W hSw; (try dsimp only at hSw); go_simp; (try with_reducible rfl))
          simp only [Act.put, q0, q1, q2]
          refine tk 37 o37 (v := ?_) ?_ ?_
          rotate_left
          · (intro W hSw; (try dsimp only at hSw); go_simp; (try with_reducible rfl))
          simp only [Act.put, q0, q1, q2]
          cases m6
          case false =>
            refine tk 38 o38 (v := ?_) ?_ ?_
            rotate_left
            · (intro W hSw; (try dsimp only at hSw); go_simp; (try with_reducible rfl))
            simp only [Act.put, q0, q1, q2]
            refine tk 39 o39 (v := ?_) ?_ ?_
            rotate_left
            · (intro W hSw; (try dsimp only at hSw); go_simp; (try with_reducible rfl))
            simp only [Act.put, q0, q1, q2]
            refine tu 40 o40 ?_
            simp only [Act.put, q0, q1, q2]
            refine tu 41 o41 ?_
            simp only [Act.put, q0, q1, q2]
            refine wpAnyH_ready (rs := [42]) (by kernel_rfl) (by simp) ?_
            refine AllReadyH.cons (o := o42) rfl (fun K hK => ?_) AllReadyH.nil
            rw [if_neg (unwanted (by rfl))]
            refine hK.out _ _ (HK.out _ hB) (fun hHeld => ?_)
            clear hK K
            simp only [Act.put, q0, q1, q2]
            refine tk 43 o43 (v := ?_) ?_ ?_
            rotate_left
            · (intro W hSw; (try dsimp only at hSw); go_simp; (try with_reducible rfl))
            simp only [Act.put, q0, q1, q2]
            refine tk 44 o44 (v := ?_) ?_ ?_
            rotate_left
            · (intro W hSw; (try dsimp only at hSw); go_simp; (try with_reducible rfl))
            simp only [Act.put, q0, q1, q2]
            refine tu 45 o45 ?_
            simp only [Act.put, q0, q1, q2]
            refine tu 46 o46 ?_
            simp only [Act.put, q0, q1, q2]
            refine tu 47 o47 ?_
            simp only [Act.put, q0, q1, q2]
            refine tu 48 o48 ?_
            simp only [Act.put, q0, q1, q2]
            refine tu 49 o49 ?_
            simp only [Act.put, q0, q1, q2]
            refine tu 50 o50 ?_
            simp only [Act.put, q0, q1, q2]
            refine wpAnyH_ready (rs := [51]) (by kernel_rfl) (by simp) ?_
            refine AllReadyH.cons (o := o51) rfl (fun K hK => ?_) AllReadyH.nil
            rw [if_neg (unwanted (by rfl))]
            refine hK.out _ _ (HK.out _ hB) (fun hHeld => ?_)
            clear hK K
            simp only [Act.put, q0, q1, q2]
            refine tu 52 o52 ?_
            simp only [Act.put, q0, q1, q2]
            refine tk 53 o53 (v := ?_) ?_ ?_
            rotate_left
            · (intro W hSw; (try dsimp only at hSw); go_simp; (try with_reducible rfl))
            simp only [Act.put, q0, q1, q2]
            refine tk 54 o54 (v := ?_) ?_ ?_
            rotate_left
            · (intro W hSw; (try dsimp only at hSw); go_simp; (try with_reducible rfl))
            simp only [Act.put, q0, q1, q2]
            refine tu 55 o55 ?_
            simp only [Act.put, q0, q1, q2]
            refine tu 56 o56 ?_
            simp only [Act.put, q0, q1, q2]
            refine tu 57 o57 ?_
            simp only [Act.put, q0, q1, q2]
            refine tu 58 o58 ?_
            simp only [Act.put, q0, q1, q2]
            refine tk 59 o59 (v := ?_) ?_ ?_
            rotate_left
            · (intro W hSw; (try dsimp only at hSw); go_simp; (try with_reducible rfl))
            simp only [Act.put, q0, q1, q2]
            refine tk 60 o60 (v := ?_) ?_ ?_
            rotate_left
            · (intro W hSw; (try dsimp only at hSw); go_simp; (try with_reducible rfl))
            simp only [Act.put, q0, q1, q2]
            refine tu 61 o61 ?_
            simp only [Act.put, q0, q1, q2]
            refine tu 62 o62 ?_
            simp only [Act.put, q0, q1, q2]
            refine wpAnyH_ready (rs := [63]) (by kernel_rfl) (by simp) ?_
            refine AllReadyH.cons (o := o63) rfl (fun K hK => ?_) AllReadyH.nil
            rw [if_neg (unwanted (by rfl))]
            refine hK.out _ _ (HK.out _ hB) (fun hHeld => ?_)
            clear hK K
            simp only [Act.put, q0, q1, q2]
            refine tk 64 o64 (v := ?_) ?_ ?_
            rotate_left
            · (intro W hSw; (try dsimp only at hSw); go_simp; (try with_reducible rfl))
            simp only [Act.put, q0, q1, q2]
            refine tk 65 o65 (v := ?_) ?_ ?_
            rotate_left
            · (intro W hSw; (try dsimp only at hSw); go_simp; (try with_reducible rfl))
            simp only [Act.put, q0, q1, q2]
            refine wpAnyH_done (by kernel_rfl) ?_ _
            go_wp2
            go_ret
            exact ⟨rfl, by rw [HB0.out]; exact HB1.out.trans (hB.mono HS1.out)⟩
          case true =>
            refine tk 38 o38 (v := ?_) ?_ ?_
            rotate_left
            · (intro W hSw; (try dsimp only at hSw); go_simp; (try with_reducible rfl))
            simp only [Act.put, q0, q1, q2]
            refine tk 39 o39 (v := ?_) ?_ ?_
            rotate_left
            · (intro W hSw; (try dsimp only at hSw); go_simp; (try with_reducible rfl))
            simp only [Act.put, q0, q1, q2]
            refine tk 40 o40 (v := ?_) ?_ ?_
            rotate_left
            · (intro W hSw; (try dsimp only at hSw); go_simp; (try with_reducible rfl))
            simp only [Act.put, q0, q1, q2]
            refine tk 41 o41 (v := ?_) ?_ ?_
            rotate_left
            · (intro W hSw; (try dsimp only at hSw); go_simp; (try with_reducible rfl))
            simp only [Act.put, q0, q1, q2]
            refine wpAnyH_ready (rs := [42]) (by kernel_rfl) (by simp) ?_
            refine AllReadyH.cons (o := o42) rfl (fun K hK => ?_) AllReadyH.nil
            go_simp
            go_at_call 38; refine (HA1.out _).mono ?_; rintro e w' ⟨rfl, rfl⟩
            show K _ _
            refine hK.out _ _ (HK.out _ hB) (fun hHeld => ?_)
            clear hK K
            cases m7
            case false =>
              refine tk 43 o43 (v := ?_) ?_ ?_
              rotate_left
              · (intro W hSw; (try dsimp only at hSw); go_simp; (try with_reducible rfl))
              simp only [Act.put, q0, q1, q2]
              refine tk 44 o44 (v := ?_) ?_ ?_
              rotate_left
              · (intro W hSw; (try dsimp only at hSw); go_simp; (try with_reducible rfl))
              simp only [Act.put, q0, q1, q2]
              refine tu 45 o45 ?_
              simp only [Act.put, q0, q1, q2]
              refine tu 46 o46 ?_
              simp only [Act.put, q0, q1, q2]
              refine tu 47 o47 ?_
              simp only [Act.put, q0, q1, q2]
              refine tu 48 o48 ?_
              simp only [Act.put, q0, q1, q2]
              refine tu 49 o49 ?_
              simp only [Act.put, q0, q1, q2]
              refine tu 50 o50 ?_
              simp only [Act.put, q0, q1, q2]
              refine wpAnyH_ready (rs := [51]) (by kernel_rfl) (by simp) ?_
              refine AllReadyH.cons (o := o51) rfl (fun K hK => ?_) AllReadyH.nil
              rw [if_neg (unwanted (by rfl))]
              refine hK.out _ _ (HK.out _ hB) (fun hHeld => ?_)
              clear hK K
              simp only [Act.put, q0, q1, q2]
              refine tu 52 o52 ?_
              simp only [Act.put, q0, q1, q2]
              refine tk 53 o53 (v := ?_) ?_ ?_
              rotate_left
              · (intro W hSw; (try dsimp only at hSw); go_simp; (try with_reducible rfl))
              simp only [Act.put, q0, q1, q2]
              refine tk 54 o54 (v := ?_) ?_ ?_
              rotate_left
              · (intro W hSw; (try dsimp only at hSw); go_simp; (try with_reducible rfl))
              simp only [Act.put, q0, q1, q2]
              refine tu 55 o55 ?_
              simp only [Act.put, q0, q1, q2]
              refine tu 56 o56 ?_
              simp only [Act.put, q0, q1, q2]
              refine tu 57 o57 ?_
              simp only [Act.put, q0, q1, q2]
              refine tu 58 o58 ?_
              simp only [Act.put, q0, q1, q2]
              refine tk 59 o59 (v := ?_) ?_ ?_
              rotate_left
              · (intro W hSw; (try dsimp only at hSw); go_simp; (try with_reducible rfl))
              simp only [Act.put, q0, q1, q2]
              refine tk 60 o60 (v := ?_) ?_ ?_
              rotate_left
              · (intro W hSw; (try dsimp only at hSw); go_simp; (try with_reducible rfl))
              simp only [Act.put, q0, q1, q2]
              refine tu 61 o61 ?_
              simp only [Act.put, q0, q1, q2]
              refine tu 62 o62 ?_
              simp only [Act.put, q0, q1, q2]
              refine wpAnyH_ready (rs := [63]) (by kernel_rfl) (by simp) ?_
              refine AllReadyH.cons (o := o63) rfl (fun K hK => ?_) AllReadyH.nil
              rw [if_neg (unwanted (by rfl))]
              refine hK.out _ _ (HK.out _ hB) (fun hHeld => ?_)
              clear hK K
              simp only [Act.put, q0, q1, q2]
              refine tk 64 o64 (v := ?_) ?_ ?_
              rotate_left
              · (intro W hSw; (try dsimp only at hSw); go_simp; (try with_reducible rfl))
              simp only [Act.put, q0, q1, q2]
              refine tk 65 o65 (v := ?_) ?_ ?_
              rotate_left
              · (intro W hSw; (try dsimp only at hSw); go_simp; (try with_reducible rfl))
              simp only [Act.put, q0, q1, q2]
              refine wpAnyH_done (by kernel_rfl) ?_ _
              go_wp2
              go_ret
              exact ⟨rfl, by rw [HB0.out]; exact HB1.out.trans (hB.mono HS1.out)⟩
            case true =>
              refine tk 43 o43 (v := ?_) ?_ ?_
              rotate_left
              · (intro W hSw; (try dsimp only at hSw); go_simp; (try with_reducible rfl))
              simp only [Act.put, q0, q1, q2]
              refine tk 44 o44 (v := ?_) ?_ ?_
              rotate_left
              · (intro W hSw; (try dsimp only at hSw); go_simp; (try with_reducible rfl))
              simp only [Act.put, q0, q1, q2]
              refine tk 45 o45 (v := ?_) ?_ ?_
              rotate_left
              · (intro W hSw; (try dsimp only at hSw); go_simp; (try with_reducible rfl))
              simp only [Act.put, q0, q1, q2]
              refine tk 46 o46 (v := ?_) ?_ ?_
              rotate_left
              · (intro W hSw; (try dsimp only at hSw); go_simp; (try with_reducible rfl))
              simp only [Act.put, q0, q1, q2]
              refine tk 47 o47 (v := ?_) ?_ ?_
              rotate_left
              · (intro W hSw; (try dsimp only at hSw); go_simp; (try with_reducible rfl))
              simp only [Act.put, q0, q1, q2]
              cases m8
              case false =>
                refine tk 48 o48 (v := ?_) ?_ ?_
                rotate_left
                · (intro W hSw; (try dsimp only at hSw); go_simp; (try with_reducible rfl))
                simp only [Act.put, q0, q1, q2]
                refine tk 49 o49 (v := ?_) ?_ ?_
                rotate_left
                · (intro W hSw; (try dsimp only at hSw); go_simp; (try with_reducible rfl))
                simp only [Act.put, q0, q1, q2]
                refine tk 50 o50 (v := ?_) ?_ ?_
                rotate_left
                · (intro W hSw; (try dsimp only at hSw); go_simp; (try with_reducible rfl))
                simp only [Act.put, q0, q1, q2]
                refine wpAnyH_ready (rs := [51]) (by kernel_rfl) (by simp) ?_
                refine AllReadyH.cons (o := o51) rfl (fun K hK => ?_) AllReadyH.nil
                go_simp
                go_at_call 40; refine (HP8.out _).mono ?_; rintro e w' ⟨rfl, rfl⟩
                show K _ _
                refine hK.out _ _ (HK.out _ hB) (fun hHeld => ?_)
                clear hK K
                cases m8'
                case false =>
                  refine tk 52 o52 (v := ?_) ?_ ?_
                  rotate_left
                  · (intro W hSw; (try dsimp only at hSw); go_simp; (try with_reducible rfl))
                  simp only [Act.put, q0, q1, q2]
                  refine tk 53 o53 (v := ?_) ?_ ?_
                  rotate_left
                  · (intro W hSw; (try dsimp only at hSw); go_simp; (try with_reducible rfl))
                  simp only [Act.put, q0, q1, q2]
                  refine tk 54 o54 (v := ?_) ?_ ?_
                  rotate_left
                  · (intro W hSw; (try dsimp only at hSw); go_simp; (try with_reducible rfl))
                  simp only [Act.put, q0, q1, q2]
                  refine tu 55 o55 ?_
                  simp only [Act.put, q0, q1, q2]
                  refine tu 56 o56 ?_
                  simp only [Act.put, q0, q1, q2]
                  refine tu 57 o57 ?_
                  simp only [Act.put, q0, q1, q2]
                  refine tu 58 o58 ?_
                  simp only [Act.put, q0, q1, q2]
                  refine tk 59 o59 (v := ?_) ?_ ?_
                  rotate_left
                  · (intro W hSw; (try dsimp only at hSw); go_simp; (try with_reducible rfl))
                  simp only [Act.put, q0, q1, q2]
                  refine tk 60 o60 (v := ?_) ?_ ?_
                  rotate_left
                  · (intro W hSw; (try dsimp only at hSw); go_simp; (try with_reducible rfl))
                  simp only [Act.put, q0, q1, q2]
                  refine tu 61 o61 ?_
                  simp only [Act.put, q0, q1, q2]
                  refine tu 62 o62 ?_
                  simp only [Act.put, q0, q1, q2]
                  refine wpAnyH_ready (rs := [63]) (by kernel_rfl) (by simp) ?_
                  refine AllReadyH.cons (o := o63) rfl (fun K hK => ?_) AllReadyH.nil
                  rw [if_neg (unwanted (by rfl))]
                  refine hK.out _ _ (HK.out _ hB) (fun hHeld => ?_)
                  clear hK K
                  simp only [Act.put, q0, q1, q2]
                  refine tk 64 o64 (v := ?_) ?_ ?_
                  rotate_left
                  · (intro W hSw; (try dsimp only at hSw); go_simp; (try with_reducible rfl))
                  simp only [Act.put, q0, q1, q2]
                  refine tk 65 o65 (v := ?_) ?_ ?_
                  rotate_left
                  · (intro W hSw; (try dsimp only at hSw); go_simp; (try with_reducible rfl))
                  simp only [Act.put, q0, q1, q2]
                  refine wpAnyH_done (by kernel_rfl) ?_ _
                  go_wp2
                  go_ret
                  exact ⟨rfl, by rw [HB0.out]; exact HB1.out.trans (hB.mono HS1.out)⟩
                case true =>
                  refine tk 52 o52 (v := ?_) ?_ ?_
                  rotate_left
                  · (intro W hSw; (try dsimp only at hSw); go_simp; (try with_reducible rfl))
                  simp only [Act.put, q0, q1, q2]
                  refine tk 53 o53 (v := ?_) ?_ ?_
                  rotate_left
                  · (intro W hSw; (try dsimp only at hSw); go_simp; (try with_reducible rfl))
                  simp only [Act.put, q0, q1, q2]
                  refine tk 54 o54 (v := ?_) ?_ ?_
                  rotate_left
                  · (intro W hSw; (try dsimp only at hSw); go_simp; (try with_reducible rfl))
                  simp only [Act.put, q0, q1, q2]
                  refine tk 55 o55 (v := ?_) ?_ ?_
                  rotate_left
                  · (intro W hSw; (try dsimp only at hSw); go_simp; (try with_reducible rfl))
                  simp only [Act.put, q0, q1, q2]
                  refine tk 56 o56 (v := ?_) ?_ ?_
                  rotate_left
                  · (intro W hSw; (try dsimp only at hSw); go_simp; (try with_reducible rfl))
                  simp only [Act.put, q0, q1, q2]
                  refine tk 57 o57 (v := ?_) ?_ ?_
                  rotate_left
                  · (intro W hSw; (try dsimp only at hSw); go_simp; (try with_reducible rfl))
                  simp only [Act.put, q0, q1, q2]
                  refine tk 58 o58 (v := ?_) ?_ ?_
                  rotate_left
                  · (intro W hSw; (try dsimp only at hSw); go_simp; (try with_reducible rfl))
                  simp only [Act.put, q0, q1, q2]
                  cases m9
                  case false =>
                    refine tk 59 o59 (v := ?_) ?_ ?_
                    rotate_left
                    · (intro W hSw; (try dsimp only at hSw); go_simp; (try with_reducible rfl))
                    simp only [Act.put, q0, q1, q2]
                    refine tk 60 o60 (v := ?_) ?_ ?_
                    rotate_left
                    · (intro W hSw; (try dsimp only at hSw); go_simp; (try with_reducible rfl))
                    simp only [Act.put, q0, q1, q2]
                    refine tu 61 o61 ?_
                    simp only [Act.put, q0, q1, q2]
                    refine tu 62 o62 ?_
                    simp only [Act.put, q0, q1, q2]
                    refine wpAnyH_ready (rs := [63]) (by kernel_rfl) (by simp) ?_
                    refine AllReadyH.cons (o := o63) rfl (fun K hK => ?_) AllReadyH.nil
                    rw [if_neg (unwanted (by rfl))]
                    refine hK.out _ _ (HK.out _ hB) (fun hHeld => ?_)
                    clear hK K
                    simp only [Act.put, q0, q1, q2]
                    refine tk 64 o64 (v := ?_) ?_ ?_
                    rotate_left
                    · (intro W hSw; (try dsimp only at hSw); go_simp; (try with_reducible rfl))
                    simp only [Act.put, q0, q1, q2]
                    refine tk 65 o65 (v := ?_) ?_ ?_
                    rotate_left
                    · (intro W hSw; (try dsimp only at hSw); go_simp; (try with_reducible rfl))
                    simp only [Act.put, q0, q1, q2]
                    refine wpAnyH_done (by kernel_rfl) ?_ _
                    go_wp2
                    go_ret
                    exact ⟨rfl, by rw [HB0.out]; exact HB1.out.trans (hB.mono HS1.out)⟩
                  case true =>
                    refine tk 59 o59 (v := ?_) ?_ ?_
                    rotate_left
                    · (intro W hSw; (try dsimp only at hSw); go_simp; (try with_reducible rfl))
                    simp only [Act.put, q0, q1, q2]
                    refine tk 60 o60 (v := ?_) ?_ ?_
                    rotate_left
                    · (intro W hSw; (try dsimp only at hSw); go_simp; (try with_reducible rfl))
                    simp only [Act.put, q0, q1, q2]
                    refine tk 61 o61 (v := ?_) ?_ ?_
                    rotate_left
                    · (intro W hSw; (try dsimp only at hSw); go_simp; (try with_reducible rfl))
                    simp only [Act.put, q0, q1, q2]
                    refine tk 62 o62 (v := ?_) ?_ ?_
                    rotate_left
                    · (intro W hSw; (try dsimp only at hSw); go_simp; (try with_reducible rfl))
                    simp only [Act.put, q0, q1, q2]
                    refine wpAnyH_ready (rs := [63]) (by kernel_rfl) (by simp) ?_
                    refine AllReadyH.cons (o := o63) rfl (fun K hK => ?_) AllReadyH.nil
                    go_simp
                    go_at_call 38; refine (HA2.out _).mono ?_; rintro e w' ⟨rfl, rfl⟩
                    show K _ _
                    refine hK.out _ _ (HK.out _ hB) (fun hHeld => ?_)
                    clear hK K
                    cases m10
                    case false =>
                      refine tk 64 o64 (v := ?_) ?_ ?_
                      rotate_left
                      · (intro W hSw; (try dsimp only at hSw); go_simp; (try with_reducible rfl))
                      simp only [Act.put, q0, q1, q2]
                      refine tk 65 o65 (v := ?_) ?_ ?_
                      rotate_left
                      · (intro W hSw; (try dsimp only at hSw); go_simp; (try with_reducible rfl))
                      simp only [Act.put, q0, q1, q2]
                      refine wpAnyH_done (by kernel_rfl) ?_ _
                      go_wp2
                      go_ret
                      exact ⟨rfl, by rw [HB0.out]; exact HB1.out.trans (hB.mono HS1.out)⟩
                    case true =>
                      refine tk 64 o64 (v := ?_) ?_ ?_
                      rotate_left
                      · (intro W hSw; (try dsimp only at hSw); go_simp; (try with_reducible rfl))
                      simp only [Act.put, q0, q1, q2]
                      refine tk 65 o65 (v := ?_) ?_ ?_
                      rotate_left
                      · (intro W hSw; (try dsimp only at hSw); go_simp; (try with_reducible rfl))
                      simp only [Act.put, q0, q1, q2]
                      refine wpAnyH_done (by kernel_rfl) ?_ _
                      go_wp2
                      go_ret
                      exact ⟨rfl, by rw [HB0.out]; exact HB1.out.trans (hB.mono HS1.out)⟩
              case true =>
                refine tk 48 o48 (v := ?_) ?_ ?_
                rotate_left
                · (intro W hSw; (try dsimp only at hSw); go_simp; (try with_reducible rfl))
                simp only [Act.put, q0, q1, q2]
                refine tu 49 o49 ?_
                simp only [Act.put, q0, q1, q2]
                refine tu 50 o50 ?_
                simp only [Act.put, q0, q1, q2]
                refine wpAnyH_ready (rs := [51]) (by kernel_rfl) (by simp) ?_
                refine AllReadyH.cons (o := o51) rfl (fun K hK => ?_) AllReadyH.nil
                rw [if_neg (unwanted (by rfl))]
                refine hK.out _ _ (HK.out _ hB) (fun hHeld => ?_)
                clear hK K
                simp only [Act.put, q0, q1, q2]
                refine tk 52 o52 (v := ?_) ?_ ?_
                rotate_left
                · (intro W hSw; (try dsimp only at hSw); go_simp; (try with_reducible rfl))
                simp only [Act.put, q0, q1, q2]
                refine tk 53 o53 (v := ?_) ?_ ?_
                rotate_left
                · (intro W hSw; (try dsimp only at hSw); go_simp; (try with_reducible rfl))
                simp only [Act.put, q0, q1, q2]
                refine tk 54 o54 (v := ?_) ?_ ?_
                rotate_left
                · (intro W hSw; (try dsimp only at hSw); go_simp; (try with_reducible rfl))
                simp only [Act.put, q0, q1, q2]
                refine tk 55 o55 (v := ?_) ?_ ?_
                rotate_left
                · (intro W hSw; (try dsimp only at hSw); go_simp; (try with_reducible rfl))
                simp only [Act.put, q0, q1, q2]
                refine tk 56 o56 (v := ?_) ?_ ?_
                rotate_left
                · (intro W hSw; (try dsimp only at hSw); go_simp; (try with_reducible rfl))
                simp only [Act.put, q0, q1, q2]
                refine tk 57 o57 (v := ?_) ?_ ?_
                rotate_left
                · (intro W hSw; (try dsimp only at hSw); go_simp; (try with_reducible rfl))
                simp only [Act.put, q0, q1, q2]
                refine tk 58 o58 (v := ?_) ?_ ?_
                rotate_left
                · (intro W hSw; (try dsimp only at hSw); go_simp; (try with_reducible rfl))
                simp only [Act.put, q0, q1, q2]
                cases m9
                case false =>
                  refine tk 59 o59 (v := ?_) ?_ ?_
                  rotate_left
                  · (intro W hSw; (try dsimp only at hSw); go_simp; (try with_reducible rfl))
                  simp only [Act.put, q0, q1, q2]
                  refine tk 60 o60 (v := ?_) ?_ ?_
                  rotate_left
                  · (intro W hSw; (try dsimp only at hSw); go_simp; (try with_reducible rfl))
                  simp only [Act.put, q0, q1, q2]
                  refine tu 61 o61 ?_
                  simp only [Act.put, q0, q1, q2]
                  refine tu 62 o62 ?_
                  simp only [Act.put, q0, q1, q2]
                  refine wpAnyH_ready (rs := [63]) (by kernel_rfl) (by simp) ?_
                  refine AllReadyH.cons (o := o63) rfl (fun K hK => ?_) AllReadyH.nil
                  rw [if_neg (unwanted (by rfl))]
                  refine hK.out _ _ (HK.out _ hB) (fun hHeld => ?_)
                  clear hK K
                  simp only [Act.put, q0, q1, q2]
                  refine tk 64 o64 (v := ?_) ?_ ?_
                  rotate_left
                  · (intro W hSw; (try dsimp only at hSw); go_simp; (try with_reducible rfl))
                  simp only [Act.put, q0, q1, q2]
                  refine tk 65 o65 (v := ?_) ?_ ?_
                  rotate_left
                  · (intro W hSw; (try dsimp only at hSw); go_simp; (try with_reducible rfl))
                  simp only [Act.put, q0, q1, q2]
                  refine wpAnyH_done (by kernel_rfl) ?_ _
                  go_wp2
                  go_ret
                  exact ⟨rfl, by rw [HB0.out]; exact HB1.out.trans (hB.mono HS1.out)⟩
                case true =>
                  refine tk 59 o59 (v := ?_) ?_ ?_
                  rotate_left
                  · (intro W hSw; (try dsimp only at hSw); go_simp; (try with_reducible rfl))
                  simp only [Act.put, q0, q1, q2]
                  refine tk 60 o60 (v := ?_) ?_ ?_
                  rotate_left
                  · (intro W hSw; (try dsimp only at hSw); go_simp; (try with_reducible rfl))
                  simp only [Act.put, q0, q1, q2]
                  refine tk 61 o61 (v := ?_) ?_ ?_
                  rotate_left
                  · (intro W hSw; (try dsimp only at hSw); go_simp; (try with_reducible rfl))
                  simp only [Act.put, q0, q1, q2]
                  refine tk 62 o62 (v := ?_) ?_ ?_
                  rotate_left
                  · (intro W hSw; (try dsimp only at hSw); go_simp; (try with_reducible rfl))
                  simp only [Act.put, q0, q1, q2]
                  refine wpAnyH_ready (rs := [63]) (by kernel_rfl) (by simp) ?_
                  refine AllReadyH.cons (o := o63) rfl (fun K hK => ?_) AllReadyH.nil
                  go_simp
                  go_at_call 38; refine (HA2.out _).mono ?_; rintro e w' ⟨rfl, rfl⟩
                  show K _ _
                  refine hK.out _ _ (HK.out _ hB) (fun hHeld => ?_)
                  clear hK K
                  cases m10
                  case false =>
                    refine tk 64 o64 (v := ?_) ?_ ?_
                    rotate_left
                    · (intro W hSw; (try dsimp only at hSw); go_simp; (try with_reducible rfl))
                    simp only [Act.put, q0, q1, q2]
                    refine tk 65 o65 (v := ?_) ?_ ?_
                    rotate_left
                    · (intro W hSw; (try dsimp only at hSw); go_simp; (try with_reducible rfl))
                    simp only [Act.put, q0, q1, q2]
                    refine wpAnyH_done (by kernel_rfl) ?_ _
                    go_wp2
                    go_ret
                    exact ⟨rfl, by rw [HB0.out]; exact HB1.out.trans (hB.mono HS1.out)⟩
                  case true =>
                    refine tk 64 o64 (v := ?_) ?_ ?_
                    rotate_left
                    · (intro W hSw; (try dsimp only at hSw); go_simp; (try with_reducible rfl))
                    simp only [Act.put, q0, q1, q2]
                    refine tk 65 o65 (v := ?_) ?_ ?_
                    rotate_left
                    · (intro W hSw; (try dsimp only at hSw); go_simp; (try with_reducible rfl))
                    simp only [Act.put, q0, q1, q2]
                    refine wpAnyH_done (by kernel_rfl) ?_ _
                    go_wp2
                    go_ret
                    exact ⟨rfl, by rw [HB0.out]; exact HB1.out.trans (hB.mono HS1.out)⟩
end Go.Proofs.YtmboekpomjgnnaaGreatDoor.Sta
