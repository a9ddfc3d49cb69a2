/-
  The walk of ParamPrints.
-/
import Derived.Test.YtelglcchcpnfbaaDoorParN
import Derived.Test.YtelglcchcpnfbaaDoorParQ
import Derived.Test.YtelglcchcpnfbaaDoorParAc
namespace Go.Proofs.YtelglcchcpnfbaaDoor.Par
open Go.RowKit Utf

theorem shL_ok {l : List (List Int)} (h : isBad l = false) : shL l = l := by
  obtain ⟨h1, h2, _⟩ := bad_no h
  unfold shL
  rw [List.take_of_length_le (by omega)]
  have : ∀ p ∈ l, shP p = p := fun p hp => by unfold shP; rw [List.take_of_length_le (by have := h2 p hp; omega)]
  rw [List.map_congr_left this]; simp
theorem Ks.sz {l : List (List Int)} (h : Ks l) : Sz l := ⟨by have := h.1; omega, fun p hp => by have := h.2 p hp; omega⟩
theorem ix3 (A1 A2 A3 : Option Addr) (n1 n2 n3 c1 c2 c3 : Nat) (P : Value → Prop) (h1 : P (.slice A1 n1 c1)) (h2 : P (.slice A2 n2 c2)) (h3 : P (.slice A3 n3 c3)) (k : Nat) (hk : k < 3) : ∃ A n c, P (.slice A n c) ∧ ∀ W, (Instr.index 32 (.agg #[.slice A1 n1 c1, .slice A2 n2 c2, .slice A3 n3 c3]) (.int .i64 (k : Int))).run Tryd.prog W = .ok (.slice A n c) W := by
  rcases (show k = 0 ∨ k = 1 ∨ k = 2 by omega) with rfl | rfl | rfl
  · exact ⟨A1, n1, c1, h1, fun _ => by kernel_rfl⟩
  · exact ⟨A2, n2, c2, h2, fun _ => by kernel_rfl⟩
  · exact ⟨A3, n3, c3, h3, fun _ => by kernel_rfl⟩
theorem ix3i (a b c : Int) (k : Nat) (hk : k < 3) : ∃ z : Int, ∀ W, (Instr.index 38 (.agg #[.int .i64 a, .int .i64 b, .int .i64 c]) (.int .i64 (k : Int))).run Tryd.prog W = .ok (.int .i64 z) W := by
  rcases (show k = 0 ∨ k = 1 ∨ k = 2 by omega) with rfl | rfl | rfl
  · exact ⟨a, fun _ => by kernel_rfl⟩
  · exact ⟨b, fun _ => by kernel_rfl⟩
  · exact ⟨c, fun _ => by kernel_rfl⟩
theorem slice1 (ad : Addr) (N cp k : Nat) (hN : N = k + 1) (hc : N ≤ cp) : ∃ ad' : Addr, (k ≠ 0 → ad' = ad.add 1) ∧ ad'.block = ad.block ∧
    (∀ W, (Instr.sliceAt 29 (.slice (some ad) N cp) (some (.int .i64 1)) none none).run Tryd.prog W = .ok (.slice (some ad') k (cp - 1)) W) ∧
    (∀ W, (Instr.slice 29 (.slice (some ad) N cp) (some (.int .i64 1)) none none).run Tryd.prog W = .ok (.slice (some ad') k (cp - 1)) W) := by
  subst hN
  by_cases h1 : cp = 1
  · subst h1
    obtain rfl : k = 0 := by omega
    refine ⟨ad, fun h => absurd rfl h, rfl, ?_, ?_⟩ <;> intro W <;> go_simp
  · refine ⟨ad.add 1, fun _ => rfl, add_block _ _, ?_, ?_⟩ <;> intro W <;> (go_simp; intro h; omega)
/-- a row of the call's own, one element stored anew -/
theorem ShO.put {w W W1 : World} {B g cap : Nat} {n k : Nat} {x' : Value} {l : List (List Int)} {q : List Int} (h : ShO w W B (.slice (some ⟨g, 0, none⟩) n cap) l) (hb : Below w.heap.size w W) (hwB : w.heap.size ≤ B) (hb1 : Below W.heap.size W W1) (hx : W1.ownsRow W.heap.size 3 1 x' q.length (cI q)) :
    RL (W1.setCell ⟨g, k, none⟩ x') (.slice (some ⟨g, 0, none⟩) n cap) (l.set k q) := by
  obtain ⟨us, h1, h2, h3⟩ := h
  have hn : n = l.length := by
    rcases h1.2 with ⟨e, _⟩ | ⟨g', cap', cur, e, _⟩
    · cases e
    · cases e; rfl
  subst hn
  have k1 := own_below h1 hb1
  have hs := k1.stored k x'
  have hgB : B ≤ g := by
    rcases h1.2 with ⟨e, _⟩ | ⟨g', cap', cur, e, hg, _⟩
    · cases e
    · cases e; exact hg
  have hfin : Below w.heap.size w (W1.setCell ⟨g, k, none⟩ x') := (up hb hb1).grown hs.2 (Nat.le_trans hb.size hb1.size) (fun j hj => by cases hj; omega)
  refine RL.grew hs.1 (by simp [h2]) fun j y p hy hp => ?_
  by_cases e : k = j
  · subst e
    have hj : k < us.length := by have := (List.getElem?_eq_some_iff.1 hy).1; simpa using this
    rw [List.getElem?_set_self hj] at hy
    rw [List.getElem?_set_self (by omega)] at hp
    cases hy; cases hp
    exact RI.grew (hx.kept hs.2 (.inr (block_ne k1 hx (by decide))))
  · rw [List.getElem?_set_ne e] at hy
    rw [List.getElem?_set_ne e] at hp
    exact (h3 j y p hy hp).keep hfin
theorem set_ks {l : List (List Int)} (h : isBad l = false) (k : Nat) (p : List Int) (hp : p.length ≤ 1000) : Ks (l.set k p) := by
  obtain ⟨h1, h2, _⟩ := bad_no h
  refine ⟨by rw [List.length_set]; omega, fun q hq => ?_⟩
  rcases List.mem_or_eq_of_mem_set hq with h | rfl
  · have := h2 q h; omega
  · exact hp
set_option maxRecDepth 100000 in
set_option maxHeartbeats 8000000 in
theorem prints_f (v u : Value) (l : List (List Int)) (ps : List UInt16) (ms : List UInt8) (at_ : UInt8) (zn none_ : Int) (w : World) (hv : RL w v l) (hu : DrR w u ps ms) (ht : Tab w) (hne : rowV ps ms ≠ []) :
    Calls Tryd.prog 3 #[v, u, .int .u8 (at_.toNat : Int), .int .i64 zn, .int .i64 none_] w fun e w' => e = .returned (.bool true) ∧ Below w.heap.size w w' := by
  have HT := Lib.hid ht; clear ht
  have Hv := Lib.hid hv
  have Hu := Lib.hid hu
  obtain ⟨AL, cl, rfl⟩ := hv.form
  generalize l.length = nl at hv Hv ⊢
  clear hv
  obtain ⟨A, n, c, B, m, e, rfl, -⟩ := hu
  have hb0 : Below w.heap.size w (w.alloc (.cells #[.slice A n c, .slice B m e] 26)) := below_box _ _
  have hx1 := Box.new w #[.slice A n c, .slice B m e] 26
  have HB0 := Lib.hid hb0
  have HX1 := Lib.hid hx1
  have HC := Lib.hid (short_any _ l _ (Hv.out.keep hb0))
  have ia := rowV_ok ps ms
  have hC := at_.toNat_lt
  generalize at_.toNat = C at hC ⊢
  clear hb0 hx1
  go_enter Tryd.func3, Tryd.ntmps3
  go_wp2_with fail
  generalize w.alloc (.cells #[.slice A n c, .slice B m e] 26) = w1 at HB0 HX1 HC ⊢
  refine HC.out.mono ?_
  rintro e2 w2 ⟨v2, rfl, h2, hb2⟩
  obtain ⟨A2, c2, rfl⟩ := h2.form
  have KS := Lib.hid (shL_ks l)
  generalize shL l = sl at h2 KS ⊢
  generalize sl.length = n2 at h2 ⊢
  have H2 := Lib.hid h2
  have HX2 := Lib.hid (HX1.out.keep hb2)
  have HB2 := Lib.hid (up HB0.out hb2)
  clear h2 hb2 HX1 HB0 HC Hv
  have HK := Lib.hid (show ∀ W, Below w2.heap.size w2 W → W.cell? ⟨w.heap.size, 0, none⟩ = some (.slice A n c) ∧ W.cell? ⟨w.heap.size, 1, none⟩ = some (.slice B m e) ∧ Below w2.heap.size w2 W from fun W hW =>
    ⟨(HX2.out.keep hW).cell 0 _ rfl, (HX2.out.keep hW).cell 1 _ rfl, hW⟩)
  have HR := fun W (hW : Below w2.heap.size w2 W) => Lib.hid (drow_any (.agg #[.slice A n c, .slice B m e]) ps ms W ((Hu.out.keep HB2.out).keep hW))
  generalize rowV ps ms = a at ia HR hne
  have hsa := shL_ok ia
  have HSH := fun v W (h : RL W v a) => Lib.hid (hsa ▸ short_own v a W h : Calls Tryd.prog 10 #[v] W fun e w' => ∃ v', e = .returned v' ∧ ShO W w' W.heap.size v' a ∧ Below W.heap.size W w')
  have HNE := Lib.hid hne
  clear hsa hne
  clear Hu HX2
  go_wp2_with fail
  go_region_held3 (fun W => W.cell? ⟨w.heap.size, 0, none⟩ = some (.slice A n c) ∧ W.cell? ⟨w.heap.size, 1, none⟩ = some (.slice B m e) ∧ Below w2.heap.size w2 W)
    (first
      | exact HK.out _ ((Below.refl _ _).drew)
      | exact HK.out _ (by assumption)
      | assumption)
    (first
      | (have hh := h4; go_at_call_of 11 (Value.agg #[Value.slice A n c, Value.slice B m e]); refine (HR _ (And.right (And.right (by assumption)))).out.mono ?_; rintro e5 w5 ⟨v5, rfl, h5, hb5⟩; obtain ⟨A5, c5, rfl⟩ := h5.form; clear hh; have f5 : Below w2.heap.size w2 w5 := up (And.right (And.right (by assumption))) hb5)
      | (go_at_call_of 11 (Value.agg #[Value.slice A n c, Value.slice B m e]); refine (HR _ (And.right (And.right (by assumption)))).out.mono ?_; rintro e4 w4 ⟨v4, rfl, h4, hb4⟩; obtain ⟨A4, c4, rfl⟩ := h4.form; have f4 : Below w2.heap.size w2 w4 := up (And.right (And.right (by assumption))) hb4)
      | (go_at_call_of 10 (Value.slice A5 a.length c5); refine (HSH _ _ h5).out.mono ?_; rintro e6 w6 ⟨v6, rfl, h6, hb6⟩; obtain ⟨A6, c6, rfl⟩ := (h6.rl hb6).form; have f6 : Below w2.heap.size w2 w6 := up f5 hb6))
  have hne := HNE.out
  have hla : 0 < a.length := List.length_pos_iff.2 hne
  have hla16 := (bad_no ia).1
  obtain ⟨us6, o1, o2, o3⟩ := id h6
  obtain ⟨g, cg, hsh, hcg, hg5, hglt⟩ := own_some o1 hla
  injection hsh with hA6 _ hc6
  subst hA6
  obtain ⟨k, hk⟩ : ∃ k : Nat, k = C % a.length := ⟨_, rfl⟩
  have hk1 : k < a.length := by rw [hk]; exact Nat.mod_lt _ hla
  obtain ⟨p, hp⟩ := get_some a k hk1
  obtain ⟨x, hx⟩ := get_some us6 k (by omega)
  have hpm := (bad_no ia).2.1 p (List.mem_of_getElem? hp)
  obtain ⟨XA, xc, rfl, hxc, hxm, _, hxr⟩ := o3 k x p hx hp
  obtain ⟨z, r, rfl⟩ : ∃ z r, p = z :: r := by
    cases p with
    | nil => simp at hpm
    | cons z r => exact ⟨z, r, rfl⟩
  obtain ⟨ad, rfl, _, _⟩ := hxr 0 (.int .i64 z) rfl
  have hcell : w6.cell? ⟨g, k, none⟩ = some (.slice (some ad) (z :: r).length xc) := by
    have := o1.cells (g := g) rfl k _ hx
    rwa [add_at] at this
  have hfz : w6.frozen? ⟨g, k, none⟩ = false := o1.frozenAt _
  obtain ⟨q, hq⟩ : ∃ q, q = r.length := ⟨_, rfl⟩
  have hzr : (z :: r).length = q + 1 := by rw [hq]; rfl
  rw [hzr] at hcell hxc
  obtain ⟨ad', had, hadb, e3, e4⟩ := slice1 ad (q + 1) xc q rfl hxc
  have hrt : Rd w6 (some ad') (cI r) := fun j y hy => by
    have hj : j < r.length := by have := (List.getElem?_eq_some_iff.1 hy).1; rwa [cI_len] at this
    obtain ⟨ad0, e0, hl0, hc0⟩ := (hxr.below hb6) (j + 1) y (by rw [show cI (z :: r) = .int .i64 z :: cI r from rfl, List.getElem?_cons_succ]; exact hy)
    cases e0
    refine ⟨ad', rfl, by rw [hadb]; exact hl0, ?_⟩
    rw [had (by omega), Addr.add_add, show 1 + j = j + 1 by omega]
    exact hc0
  have hq5 : q ≤ 5 := by have := hpm.2.1; rw [hzr] at this; omega
  have hkI : (C : Int) % (a.length : Int) = (k : Int) := by rw [hk]; rfl
  have hg2 : w2.heap.size ≤ g := Nat.le_trans f5.size hg5
  have hg4 : w4.heap.size ≤ g := Nat.le_trans hb5.size hg5
  have FIN := Lib.hid (show ∀ W v', Below w6.heap.size w6 W → W.ownsRow w6.heap.size 3 1 v' (r ++ [zn]).length (cI (r ++ [zn])) →
      (RL (W.setCell ⟨g, k, none⟩ v') (.slice (some ⟨g, 0, none⟩) a.length c6) (a.set k (r ++ [zn])) ∧ RL (W.setCell ⟨g, k, none⟩ v') (.slice A4 a.length c4) a ∧ Below w2.heap.size w2 (W.setCell ⟨g, k, none⟩ v')) from fun W v' hW hv' => by
    have hgr := ((own_below o1 hW).stored k v').2
    have hb46 := (up hb5 hb6).trans (hW.mono (up hb5 hb6).size)
    exact ⟨h6.put hb6 (Nat.le_refl _) hW hv', h4.keep (hb46.grown hgr hb46.size (fun j hj => by cases hj; exact hg4)), (up f6 hW).grown hgr (up f6 hW).size (fun j hj => by cases hj; exact hg2)⟩)
  have HRT := Lib.hid hrt
  have HQ := Lib.hid hq
  have KB := Lib.hid (set_ks ia k (r ++ [zn]) (by rw [List.length_append]; simp; omega))
  have KA := Lib.hid (Ks.of_ok ia)
  obtain ⟨na, hna⟩ : ∃ na, na = a.length := ⟨_, rfl⟩
  rw [← hna] at hla hla16 hk1 hkI FIN ⊢
  have hnz : ¬ ((na : Int) = 0) := by omega
  have hpos : decide ((0 : Int) < (na : Int)) = true := decide_eq_true (by omega)
  have i1 : (0 : Int) ≤ (k : Int) := by omega
  have i2 : (k : Int) < (na : Int) := by omega
  obtain ⟨t0, hi0, hz0, hz1, hz2⟩ := info_parts infoI
  clear hk hp hx hpm o1 o2 o3 hxr hrt hq hzr had hadb h4 h5 h6 f4 f5 f6 hb4 hb5 hb6 hcg hne ia hg2 hg4 hg5 hna HR HSH HK hc6
  go_wp2_with (at_builtin; refine wpList_app _ rfl (.tmp 39) (.tmp 45) 29 rfl w6.heap.size 3 t0 _ 8 Tryd.underlying29 hi0 hz0 hz1 hz2 rfl _ 0 [] rfl (own_empty w6 w6.heap.size (Nat.le_refl _)) (some ad') q (xc - 1) (cI r) rfl (by rw [cI_len, ← HQ.out]) (HRT.out.below (below_box _ _)) (cI_one _) (by omega) (by decide) (by rw [World.size_alloc]; omega) ?_; intro v7 w7 hown7 hgrow7 hat7; refine Hid.out ?_)
  refine Lib.hid ?_
  rw [Nat.zero_add, List.nil_append] at hown7
  obtain ⟨A7, c7, rfl, _, _⟩ := own_slice hown7
  have hg7 : (w6.alloc (.cells #[] 3)).grownBy w7 (some w6.heap.size) := hgrow7
  have hb7 : Below w6.heap.size w6 w7 := (below_box w6 _).grown hg7 (by rw [World.size_alloc]; omega) (fun j hj => by cases hj; exact Nat.le_refl _)
  have H7 := Lib.hid hown7
  have HB7 := Lib.hid hb7
  have hs7 := hb7.size
  clear hown7 hgrow7 hat7 hg7 hb7
  go_wp2_with (at_builtin; refine wpList_app _ rfl (.tmp 46) (.tmp 48) 29 rfl w6.heap.size 3 t0 _ 8 Tryd.underlying29 hi0 hz0 hz1 hz2 rfl _ q (cI r) rfl (own_below H7.out (below_box _ _)) (some ⟨w7.heap.size, 0, none⟩) 1 1 [.int .i64 zn] rfl rfl (Rd.one _ _ _) (by intro u hu; simp at hu; subst hu; rfl) (by omega) (by decide) (by rw [World.size_alloc]; omega) ?_; intro v8 w8 hown8 hgrow8 hat8; refine Hid.out ?_)
  refine Lib.hid ?_
  have hg8 : (w7.alloc (.cells #[.int .i64 zn] 3)).grownBy w8 (Value.slice A7 q c7).ownBlock := hgrow8
  have hb8 : Below w6.heap.size w6 w8 := (up HB7.out (below_box w7 _)).grown hg8 (by rw [World.size_alloc]; omega) (fun j hj => (H7.out.lt j hj).1)
  have hrz : (r ++ [zn]).length = q + 1 := by rw [List.length_append, ← HQ.out]; rfl
  obtain ⟨f1, f2, f3⟩ := FIN.out w8 v8 hb8 (by rw [hrz, cI_append]; exact hown8)
  obtain ⟨A8, c8, rfl, _, _⟩ := own_slice hown8
  have F1 := Lib.hid f1
  have F2 := Lib.hid f2
  have F3 := Lib.hid f3
  have hcell8 := (hb8.cell (p := ⟨g, k, none⟩) hglt).trans hcell
  have hfz8 := (hb8.frozen (p := ⟨g, k, none⟩) hglt).trans hfz
  clear f1 f2 f3 FIN hg8 hb8 hown8 hgrow8 hat8 hrz H7 HB7 hs7 hcell hfz e3 e4 HRT HQ
  go_upto_region 6 with fail
  generalize w8.setCell ⟨g, k, none⟩ (.slice A8 (q + 1) c8) = w9 at F1 F2 F3 ⊢
  have FP := Lib.hid (show (∃ x, Ks x ∧ RL w9 (.slice A2 n2 c2) x) ∧ (∃ x, Ks x ∧ RL w9 (.slice A4 na c4) x) ∧ (∃ x, Ks x ∧ RL w9 (.slice (some ⟨g, 0, none⟩) na c6) x) from ⟨⟨sl, KS.out, H2.out.keep F3.out⟩, ⟨a, KA.out, F2.out⟩, ⟨_, KB.out, F1.out⟩⟩)
  have HO := F2
  have HT9 := Lib.hid ((HT.out.keep HB2.out).keep F3.out)
  have HW9 := Lib.hid (up HB2.out F3.out)
  clear F1 F2 F3 KS KB H2 HT HB2
  go_wp2
  go_loopw [56] (fun i wr => ∃ k : Nat, k ≤ 3 ∧ i = .int .i64 k ∧ Hid (Below w9.heap.size w9 wr)) (fun i _ => 3 - (intOf i).toNat)
  case atStart => exact ⟨0, by omega, rfl, Below.refl _ _⟩
  case round =>
    obtain ⟨kk, hkk, rfl, hid⟩ := hrel
    by_cases hlt : kk < 3
    · obtain ⟨AX, nx, cx, ⟨x, kx, hx⟩, e0⟩ := ix3 A2 A4 (some ⟨g, 0, none⟩) n2 na na c2 c4 c6 (fun v => ∃ x, Ks x ∧ RL w9 v x) FP.out.1 FP.out.2.1 FP.out.2.2 kk hlt
      have KX := Lib.hid kx
      have HX := Lib.hid (hx.keep hid.out)
      have HOr := Lib.hid (HO.out.keep hid.out)
      have HP := Lib.hid (print_any _ x wr HX.out KX.out.sz (HT9.out.keep hid.out))
      have HRP := fun W (hb : Below wr.heap.size wr W) => Lib.hid (rprint_any _ x W (HX.out.keep hb) KX.out.sz.1)
      have HCK := fun W (hb : Below wr.heap.size wr W) => Lib.hid (check_any _ x W (HX.out.keep hb) KX.out.sz.1 KX.out.sz.2)
      have HRC := fun W (hb : Below wr.heap.size wr W) => Lib.hid (rcheck_any _ x W (HX.out.keep hb) KX.out.sz.1)
      have HS1 := fun W (hb : Below wr.heap.size wr W) => Lib.hid (same_any _ _ x a W (HX.out.keep hb) (HOr.out.keep hb) KX.out.sz.1 KX.out.sz.2)
      have HS2 := fun W (hb : Below wr.heap.size wr W) => Lib.hid (rsame_any _ _ x a W (HX.out.keep hb) (HOr.out.keep hb) KX.out.sz.1 KX.out.sz.2 KA.out.sz.2)
      have HS3 := fun W (hb : Below wr.heap.size wr W) => Lib.hid (same_any _ _ x x W (HX.out.keep hb) (HX.out.keep hb) KX.out.sz.1 KX.out.sz.2)
      rw [decide_eq_true (rfl : x = x)] at HS3
      generalize prtV x = S at HP HRP
      generalize chkV x = r0 at HP HRP HCK HRC
      generalize decide (x = a) = b0 at HS1 HS2
      have c1 : decide ((kk : Int) < 3) = true := decide_eq_true (by omega)
      clear kx hx
      obtain ⟨wo, hwo⟩ : ∃ wo, wo = wr := ⟨_, rfl⟩
      subst hwo
      go_wp2_with (first
        | (go_at_call 12; refine HP.out.mono ?_; rintro e1 wa ⟨rfl, ha⟩)
        | (go_at_call 13; refine (HRP _ ha).out.mono ?_; rintro e1 wb ⟨rfl, hb⟩; have hb := up ha hb)
        | (go_at_call 14; refine (HCK _ hb).out.mono ?_; rintro e1 wc ⟨rfl, hc⟩; have hc := up hb hc)
        | (go_at_call 15; refine (HRC _ hc).out.mono ?_; rintro e1 wd ⟨rfl, hd⟩; have hd := up hc hd)
        | (have hh := hf; go_at_call 16; refine (HS3 _ hf).out.mono ?_; rintro e1 wg ⟨rfl, hg⟩; have hg := up hf hg; clear hh)
        | (go_at_call 16; refine (HS1 _ hd).out.mono ?_; rintro e1 we ⟨rfl, he⟩; have he := up hd he)
        | (go_at_call 17; refine (HS2 _ he).out.mono ?_; rintro e1 wf ⟨rfl, hf⟩; have hf := up he hf))
      have HG := Lib.hid hg
      clear HP HRP HCK HRC HS1 HS2 HS3 ha hb hc hd he hf hg e0
      go_loopw [104] (fun i wi => ∃ j : Nat, j ≤ 3 ∧ i = .int .i64 j ∧ Hid (Below wg.heap.size wg wi)) (fun i _ => 3 - (intOf i).toNat)
      case atStart => exact ⟨0, by omega, rfl, Below.refl _ _⟩
      case round =>
        obtain ⟨j, hj, rfl, hin⟩ := hrel
        by_cases hjt : j < 3
        · obtain ⟨y, e1⟩ := ix3i zn ((C : Int) % 20) 0 j hjt
          have HXw := Lib.hid (HX.out.keep (up HG.out hin.out))
          have HV := Lib.hid (value_any _ x y none_ wr HXw.out)
          have HRV := fun W (hb : Below wr.heap.size wr W) => Lib.hid (rvalue_any _ x y none_ W (HXw.out.keep hb))
          generalize valV x y none_ = r2 at HV HRV
          have c2 : decide ((j : Int) < 3) = true := decide_eq_true (by omega)
          go_wp2_with (first
            | (go_at_call 18; refine HV.out.mono ?_; rintro e1 wh ⟨rfl, hh⟩)
            | (go_at_call 19; refine (HRV _ hh).out.mono ?_; rintro e1 wi ⟨rfl, hi⟩))
          exact ⟨⟨j + 1, by omega, by go_num, up hin.out (up hh hi)⟩, by simp [intOf]; omega⟩
        · have c2 : decide ((j : Int) < 3) = false := decide_eq_false (by omega)
          go_wp2
          exact ⟨⟨kk + 1, by omega, by go_num, up hid.out (up HG.out hin.out)⟩, by simp [intOf]; omega⟩
    · have c1 : decide ((kk : Int) < 3) = false := decide_eq_false (by omega)
      go_wp2_with (go_at_call 20; refine (works_any _ (HT9.out.keep hid.out)).mono ?_; rintro e7 w7 ⟨rfl, hb7⟩)
      go_ret
      exact ⟨rfl, up HW9.out (up hid.out hb7)⟩
set_option maxRecDepth 100000 in
set_option maxHeartbeats 8000000 in
theorem prints_e (v u : Value) (l : List (List Int)) (ps : List UInt16) (ms : List UInt8) (at_ : UInt8) (zn none_ : Int) (w : World) (hv : RL w v l) (hu : DrR w u ps ms) (ht : Tab w) (hne : rowV ps ms = []) :
    Calls Tryd.prog 3 #[v, u, .int .u8 (at_.toNat : Int), .int .i64 zn, .int .i64 none_] w fun e w' => e = .returned (.bool true) ∧ Below w.heap.size w w' := by
  have HT := Lib.hid ht; clear ht
  have Hv := Lib.hid hv
  have Hu := Lib.hid hu
  obtain ⟨AL, cl, rfl⟩ := hv.form
  generalize l.length = nl at hv Hv ⊢
  clear hv
  obtain ⟨A, n, c, B, m, e, rfl, -⟩ := hu
  have hb0 : Below w.heap.size w (w.alloc (.cells #[.slice A n c, .slice B m e] 26)) := below_box _ _
  have hx1 := Box.new w #[.slice A n c, .slice B m e] 26
  have HB0 := Lib.hid hb0
  have HX1 := Lib.hid hx1
  have HC := Lib.hid (short_any _ l _ (Hv.out.keep hb0))
  have ia := rowV_ok ps ms
  have hC := at_.toNat_lt
  generalize at_.toNat = C at hC ⊢
  clear hb0 hx1
  go_enter Tryd.func3, Tryd.ntmps3
  go_wp2_with fail
  generalize w.alloc (.cells #[.slice A n c, .slice B m e] 26) = w1 at HB0 HX1 HC ⊢
  refine HC.out.mono ?_
  rintro e2 w2 ⟨v2, rfl, h2, hb2⟩
  obtain ⟨A2, c2, rfl⟩ := h2.form
  have KS := Lib.hid (shL_ks l)
  generalize shL l = sl at h2 KS ⊢
  generalize sl.length = n2 at h2 ⊢
  have H2 := Lib.hid h2
  have HX2 := Lib.hid (HX1.out.keep hb2)
  have HB2 := Lib.hid (up HB0.out hb2)
  clear h2 hb2 HX1 HB0 HC Hv
  have HK := Lib.hid (show ∀ W, Below w2.heap.size w2 W → W.cell? ⟨w.heap.size, 0, none⟩ = some (.slice A n c) ∧ W.cell? ⟨w.heap.size, 1, none⟩ = some (.slice B m e) ∧ Below w2.heap.size w2 W from fun W hW =>
    ⟨(HX2.out.keep hW).cell 0 _ rfl, (HX2.out.keep hW).cell 1 _ rfl, hW⟩)
  have HR := fun W (hW : Below w2.heap.size w2 W) => Lib.hid (drow_any (.agg #[.slice A n c, .slice B m e]) ps ms W ((Hu.out.keep HB2.out).keep hW))
  generalize rowV ps ms = a at ia HR hne
  have hsa := shL_ok ia
  have HSH := fun v W (h : RL W v a) => Lib.hid (hsa ▸ short_own v a W h : Calls Tryd.prog 10 #[v] W fun e w' => ∃ v', e = .returned v' ∧ ShO W w' W.heap.size v' a ∧ Below W.heap.size W w')
  have HNE := Lib.hid hne
  clear hsa hne
  clear Hu HX2
  go_wp2_with fail
  go_region_held3 (fun W => W.cell? ⟨w.heap.size, 0, none⟩ = some (.slice A n c) ∧ W.cell? ⟨w.heap.size, 1, none⟩ = some (.slice B m e) ∧ Below w2.heap.size w2 W)
    (first
      | exact HK.out _ ((Below.refl _ _).drew)
      | exact HK.out _ (by assumption)
      | assumption)
    (first
      | (have hh := h4; go_at_call_of 11 (Value.agg #[Value.slice A n c, Value.slice B m e]); refine (HR _ (And.right (And.right (by assumption)))).out.mono ?_; rintro e5 w5 ⟨v5, rfl, h5, hb5⟩; obtain ⟨A5, c5, rfl⟩ := h5.form; clear hh; have f5 : Below w2.heap.size w2 w5 := up (And.right (And.right (by assumption))) hb5)
      | (go_at_call_of 11 (Value.agg #[Value.slice A n c, Value.slice B m e]); refine (HR _ (And.right (And.right (by assumption)))).out.mono ?_; rintro e4 w4 ⟨v4, rfl, h4, hb4⟩; obtain ⟨A4, c4, rfl⟩ := h4.form; have f4 : Below w2.heap.size w2 w4 := up (And.right (And.right (by assumption))) hb4)
      | (go_at_call_of 10 (Value.slice A5 a.length c5); refine (HSH _ _ h5).out.mono ?_; rintro e6 w6 ⟨v6, rfl, h6, hb6⟩; obtain ⟨A6, c6, rfl⟩ := (h6.rl hb6).form; have f6 : Below w2.heap.size w2 w6 := up f5 hb6))
  have hne := HNE.out
  have KA := Lib.hid (Ks.of_ok ia)
  have KB := Lib.hid (Ks.of_ok ia)
  have F1 := Lib.hid (h6.rl hb6)
  have F2 := Lib.hid (h4.keep (up hb5 hb6))
  have F3 := Lib.hid f6
  obtain ⟨na, hna⟩ : ∃ na, na = a.length := ⟨_, rfl⟩
  rw [← hna] at F1 F2 ⊢
  have hpos : decide (0 < na) = false := by rw [hna, hne]; rfl
  clear h4 h5 h6 f4 f5 f6 hb4 hb5 hb6 hne ia hna HR HSH HK
  go_upto_region 6 with fail
  generalize w6 = w9 at F1 F2 F3 ⊢
  have FP := Lib.hid (show (∃ x, Ks x ∧ RL w9 (.slice A2 n2 c2) x) ∧ (∃ x, Ks x ∧ RL w9 (.slice A4 na c4) x) ∧ (∃ x, Ks x ∧ RL w9 (.slice A6 na c6) x) from ⟨⟨sl, KS.out, H2.out.keep F3.out⟩, ⟨a, KA.out, F2.out⟩, ⟨_, KB.out, F1.out⟩⟩)
  have HO := F2
  have HT9 := Lib.hid ((HT.out.keep HB2.out).keep F3.out)
  have HW9 := Lib.hid (up HB2.out F3.out)
  clear F1 F2 F3 KS KB H2 HT HB2
  go_wp2
  go_loopw [56] (fun i wr => ∃ k : Nat, k ≤ 3 ∧ i = .int .i64 k ∧ Hid (Below w9.heap.size w9 wr)) (fun i _ => 3 - (intOf i).toNat)
  case atStart => exact ⟨0, by omega, rfl, Below.refl _ _⟩
  case round =>
    obtain ⟨kk, hkk, rfl, hid⟩ := hrel
    by_cases hlt : kk < 3
    · obtain ⟨AX, nx, cx, ⟨x, kx, hx⟩, e0⟩ := ix3 A2 A4 A6 n2 na na c2 c4 c6 (fun v => ∃ x, Ks x ∧ RL w9 v x) FP.out.1 FP.out.2.1 FP.out.2.2 kk hlt
      have KX := Lib.hid kx
      have HX := Lib.hid (hx.keep hid.out)
      have HOr := Lib.hid (HO.out.keep hid.out)
      have HP := Lib.hid (print_any _ x wr HX.out KX.out.sz (HT9.out.keep hid.out))
      have HRP := fun W (hb : Below wr.heap.size wr W) => Lib.hid (rprint_any _ x W (HX.out.keep hb) KX.out.sz.1)
      have HCK := fun W (hb : Below wr.heap.size wr W) => Lib.hid (check_any _ x W (HX.out.keep hb) KX.out.sz.1 KX.out.sz.2)
      have HRC := fun W (hb : Below wr.heap.size wr W) => Lib.hid (rcheck_any _ x W (HX.out.keep hb) KX.out.sz.1)
      have HS1 := fun W (hb : Below wr.heap.size wr W) => Lib.hid (same_any _ _ x a W (HX.out.keep hb) (HOr.out.keep hb) KX.out.sz.1 KX.out.sz.2)
      have HS2 := fun W (hb : Below wr.heap.size wr W) => Lib.hid (rsame_any _ _ x a W (HX.out.keep hb) (HOr.out.keep hb) KX.out.sz.1 KX.out.sz.2 KA.out.sz.2)
      have HS3 := fun W (hb : Below wr.heap.size wr W) => Lib.hid (same_any _ _ x x W (HX.out.keep hb) (HX.out.keep hb) KX.out.sz.1 KX.out.sz.2)
      rw [decide_eq_true (rfl : x = x)] at HS3
      generalize prtV x = S at HP HRP
      generalize chkV x = r0 at HP HRP HCK HRC
      generalize decide (x = a) = b0 at HS1 HS2
      have c1 : decide ((kk : Int) < 3) = true := decide_eq_true (by omega)
      clear kx hx
      obtain ⟨wo, hwo⟩ : ∃ wo, wo = wr := ⟨_, rfl⟩
      subst hwo
      go_wp2_with (first
        | (go_at_call 12; refine HP.out.mono ?_; rintro e1 wa ⟨rfl, ha⟩)
        | (go_at_call 13; refine (HRP _ ha).out.mono ?_; rintro e1 wb ⟨rfl, hb⟩; have hb := up ha hb)
        | (go_at_call 14; refine (HCK _ hb).out.mono ?_; rintro e1 wc ⟨rfl, hc⟩; have hc := up hb hc)
        | (go_at_call 15; refine (HRC _ hc).out.mono ?_; rintro e1 wd ⟨rfl, hd⟩; have hd := up hc hd)
        | (have hh := hf; go_at_call 16; refine (HS3 _ hf).out.mono ?_; rintro e1 wg ⟨rfl, hg⟩; have hg := up hf hg; clear hh)
        | (go_at_call 16; refine (HS1 _ hd).out.mono ?_; rintro e1 we ⟨rfl, he⟩; have he := up hd he)
        | (go_at_call 17; refine (HS2 _ he).out.mono ?_; rintro e1 wf ⟨rfl, hf⟩; have hf := up he hf))
      have HG := Lib.hid hg
      clear HP HRP HCK HRC HS1 HS2 HS3 ha hb hc hd he hf hg e0
      go_loopw [104] (fun i wi => ∃ j : Nat, j ≤ 3 ∧ i = .int .i64 j ∧ Hid (Below wg.heap.size wg wi)) (fun i _ => 3 - (intOf i).toNat)
      case atStart => exact ⟨0, by omega, rfl, Below.refl _ _⟩
      case round =>
        obtain ⟨j, hj, rfl, hin⟩ := hrel
        by_cases hjt : j < 3
        · obtain ⟨y, e1⟩ := ix3i zn ((C : Int) % 20) 0 j hjt
          have HXw := Lib.hid (HX.out.keep (up HG.out hin.out))
          have HV := Lib.hid (value_any _ x y none_ wr HXw.out)
          have HRV := fun W (hb : Below wr.heap.size wr W) => Lib.hid (rvalue_any _ x y none_ W (HXw.out.keep hb))
          generalize valV x y none_ = r2 at HV HRV
          have c2 : decide ((j : Int) < 3) = true := decide_eq_true (by omega)
          go_wp2_with (first
            | (go_at_call 18; refine HV.out.mono ?_; rintro e1 wh ⟨rfl, hh⟩)
            | (go_at_call 19; refine (HRV _ hh).out.mono ?_; rintro e1 wi ⟨rfl, hi⟩))
          exact ⟨⟨j + 1, by omega, by go_num, up hin.out (up hh hi)⟩, by simp [intOf]; omega⟩
        · have c2 : decide ((j : Int) < 3) = false := decide_eq_false (by omega)
          go_wp2
          exact ⟨⟨kk + 1, by omega, by go_num, up hid.out (up HG.out hin.out)⟩, by simp [intOf]; omega⟩
    · have c1 : decide ((kk : Int) < 3) = false := decide_eq_false (by omega)
      go_wp2_with (go_at_call 20; refine (works_any _ (HT9.out.keep hid.out)).mono ?_; rintro e7 w7 ⟨rfl, hb7⟩)
      go_ret
      exact ⟨rfl, up HW9.out (up hid.out hb7)⟩
theorem prints_any (v u : Value) (l : List (List Int)) (ps : List UInt16) (ms : List UInt8) (at_ : UInt8) (zn none_ : Int) (w : World) (hv : RL w v l) (hu : DrR w u ps ms) (ht : Tab w) :
    Calls Tryd.prog 3 #[v, u, .int .u8 (at_.toNat : Int), .int .i64 zn, .int .i64 none_] w fun e w' => e = .returned (.bool true) ∧ Below w.heap.size w w' := by
  by_cases h : rowV ps ms = []
  · exact prints_e v u l ps ms at_ zn none_ w hv hu ht h
  · exact prints_f v u l ps ms at_ zn none_ w hv hu ht h
end Go.Proofs.YtelglcchcpnfbaaDoor.Par
