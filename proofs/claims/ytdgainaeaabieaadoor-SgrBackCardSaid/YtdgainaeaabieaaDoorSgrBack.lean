/-
  The walk of the law SgrBack.
-/
import Derived.Test.YtdgainaeaabieaaDoorL20
import Derived.Test.YtdgainaeaabieaaDoorL31
import Derived.Test.YtdgainaeaabieaaDoorL32
import Derived.Test.YtdgainaeaabieaaDoorL34
namespace Go.Proofs.YtdgainaeaabieaaDoor.Sgr
open Go.RowKit Utf

def qD (d : Sty.D8) : Q4 := qP (Sty.penD d)
theorem pP_qD (d : Sty.D8) : Sty.penD d = pP (qD d) := (pP_of _ (Sty.penD_ok d)).1
theorem qD_ok (d : Sty.D8) : okQ (qD d) = true := (pP_of _ (Sty.penD_ok d)).2
/-- pens that are valid, sixteen at most, one at least -/
structure Good (qs : List Q4) : Prop where
  ok : qs.all okQ = true
  le : qs.length ≤ 16
  pos : 0 < qs.length
theorem Good.ne {qs : List Q4} (h : Good qs) : qs ≠ [] := fun e => by have := h.pos; rw [e] at this; exact absurd this (by decide)
theorem Good.pars {qs : List Q4} (h : Good qs) : parsV (pPs qs) = (qs.map prmV, 0) := by
  have h1 : (pPs qs).any badP = false := by
    unfold pPs
    rw [List.any_map, List.any_eq_false]
    intro q hq
    have := List.all_eq_true.1 h.ok q hq
    simp only [Function.comp, badP, okP_pP, this, Bool.not_true]
    decide
  have h2 : (pPs qs).length ≤ 16 := by unfold pPs; rw [List.length_map]; exact h.le
  unfold parsV
  rw [h1, if_neg (by decide), if_neg (by omega)]
  unfold prmP pPs
  rw [List.map_map]
  rfl
theorem Good.right {qs : List Q4} (h : Good qs) : Par.isBad (qs.map prmV) = false := prms_right qs h.ok h.le
theorem Good.back {qs : List Q4} (h : Good qs) : pensV (qs.map prmV) = (qs, 0) := by
  unfold pensV
  rw [h.right, if_neg (by decide), Sgr.back qs h.ok h.ne]
theorem params_good (W : World) (h : Env W) (A : Option Addr) (n c : Nat) (qs : List Q4) (hg : Good qs) (hn : n = qs.length) (hr : Sty.RdP W A (pPs qs)) :
    Calls Tryd.prog 18 #[.slice A n c] W fun e w' => ∃ B d, e = .returned (.tuple #[.slice B n d, .int .i64 0]) ∧ Par.RL w' (.slice B n d) (qs.map prmV) ∧ Below W.heap.size W w' := by
  have hl : (pPs qs).length = n := by unfold pPs; rw [List.length_map, hn]
  refine (params_any A n c (pPs qs) W h hl.symm hr (by have := hg.le; omega)).mono ?_
  rintro e w' ⟨v, rfl, hv, hb⟩
  rw [hg.pars] at hv ⊢
  obtain ⟨B, d, rfl⟩ := hv.rl.form
  have hm : (qs.map prmV).length = n := by rw [List.length_map, hn]
  have hv' := hv.rl
  simp only [hm] at hv' ⊢
  exact ⟨B, d, rfl, hv', hb⟩
theorem pens_good9 (W : World) (h : Env W) (v : Value) (n : Nat) (qs : List Q4) (hg : Good qs) (hn : n = qs.length) (hr : Par.RL W v (qs.map prmV)) :
    Calls Tryd.prog 13 #[v] W fun e w' => ∃ B d, e = .returned (.tuple #[.slice B n d, .int .i64 0]) ∧ Sty.RdP w' B (pPs qs) ∧ Below W.heap.size W w' := by
  have hz := (Par.good_is hg.right).1
  refine (pens_is W h v _ hr hz (qs, 0) hg.back).mono ?_
  rintro e w' ⟨⟨B, d, rfl, hr⟩, hb⟩
  subst hn
  exact ⟨B, d, rfl, hr, hb⟩
theorem print_good (W : World) (h : Par.Tab W) (v : Value) (qs : List Q4) (hg : Good qs) (hr : Par.RL W v (qs.map prmV)) (s : ByteArray) (hs : s = Par.prtV (qs.map prmV)) :
    Calls Tryd.prog 21 #[v] W fun e w' => e = .returned (.tuple #[.string s, .int .i64 0]) ∧ Below W.heap.size W w' := by
  obtain ⟨hz, h1, h2, h3⟩ := Par.good_is hg.right
  have := Par.print_any v _ W hr hz h
  rw [h2, ← hs] at this
  exact this
theorem parse_good (W : World) (n : Nat) (qs : List Q4) (hg : Good qs) (hn : n = qs.length) (s : ByteArray) (hs : s = Par.prtV (qs.map prmV)) :
    Calls Tryd.prog 22 #[.string s] W fun e w' => ∃ B d, e = .returned (.tuple #[.slice B n d, .int .i64 0]) ∧ Par.RL w' (.slice B n d) (qs.map prmV) ∧ Below W.heap.size W w' := by
  obtain ⟨hz, h1, h2, h3⟩ := Par.good_is hg.right
  rw [← h1, ← hs] at h3
  refine (Par.parse_any s W).mono ?_
  rintro e w' ⟨v, rfl, hv, hb⟩
  rw [h3] at hv ⊢
  obtain ⟨B, d, rfl⟩ := hv.1.form
  have hm : (qs.map prmV).length = n := by rw [List.length_map, hn]
  have hv' := hv.1
  simp only [hm] at hv' ⊢
  exact ⟨B, d, rfl, hv', hb⟩
theorem same_good (W : World) (A B : Option Addr) (n c d : Nat) (qs : List Q4) (hg : Good qs) (hn : n = qs.length) (ha : Sty.RdP W A (pPs qs)) (hb : Sty.RdP W B (pPs qs)) :
    Calls Tryd.prog 15 #[.slice A n c, .slice B n d] W fun e w' => e = .returned (.bool true) ∧ Below W.heap.size W w' := by
  have := same9_any A B n n c d qs qs W hn hn ha hb (by have := hg.le; omega)
  rw [decide_eq_true (rfl : qs = qs)] at this
  exact this
theorem rsame_good (W : World) (u v : Value) (qs : List Q4) (hg : Good qs) (ha : Par.RL W u (qs.map prmV)) (hb : Par.RL W v (qs.map prmV)) :
    Calls Tryd.prog 20 #[u, v] W fun e w' => e = .returned (.bool true) ∧ Below W.heap.size W w' := by
  obtain ⟨hz, _⟩ := Par.good_is hg.right
  have := Par.rsame_any u v _ _ W ha hb hz.1 hz.2 hz.2
  rw [decide_eq_true (rfl : qs.map prmV = qs.map prmV)] at this
  exact this
theorem pen9_any (d : Sty.D8) (w : World) : Calls Tryd.prog 17 #[.agg #[.int .u8 (d.a.toNat : Int), .int .u8 (d.u.toNat : Int), .int .u8 (d.w.toNat : Int), .int .u8 (d.m.toNat : Int), .int .u32 (d.e0.toNat : Int), .int .u32 (d.e1.toNat : Int), .int .u32 (d.e2.toNat : Int), .int .u32 (d.e3.toNat : Int)]] w fun r w' => r = .returned (qV (qD d)) ∧ Below w.heap.size w w' := by
  have := Sty.pen_any d w
  rw [pP_qD] at this
  exact this
/-- the pens of the law: one of the first draft, one each of the next fifteen -/
def qds (d : Sty.D8) (ds : List Sty.D8) (k : Nat) : List Q4 := qD d :: (ds.take k).map qD
theorem qds_len (d : Sty.D8) (ds : List Sty.D8) (k : Nat) (hk : k ≤ ds.length) : (qds d ds k).length = k + 1 := by unfold qds; rw [List.length_cons, List.length_map, List.length_take, Nat.min_eq_left hk]
theorem qds_good (d : Sty.D8) (ds : List Sty.D8) (k : Nat) (hk : k ≤ ds.length) (h : k ≤ 15) : Good (qds d ds k) := by
  refine ⟨?_, by rw [qds_len d ds k hk]; omega, by rw [qds_len d ds k hk]; omega⟩
  unfold qds
  rw [List.all_cons, qD_ok, List.all_map]
  simp only [Bool.true_and, List.all_eq_true]
  intro x _
  exact qD_ok x
theorem qds_snoc (d : Sty.D8) (ds : List Sty.D8) (k : Nat) (x : Sty.D8) (h : ds[k]? = some x) : pPs (qds d ds k) ++ [pP (qD x)] = pPs (qds d ds (k + 1)) := by
  rw [← pPs_snoc]
  congr 1
  unfold qds
  rw [List.take_add_one, h]
  simp
set_option maxRecDepth 100000 in
set_option maxHeartbeats 4000000 in
theorem back_any (d : Sty.D8) (ds : List Sty.D8) (A : Option Addr) (n c : Nat) (hn : ds.length = n) (w : World) (het : EnvT w) (hr : Sty.RdD w A ds) :
    Calls Tryd.prog 6 #[.agg #[.int .u8 (d.a.toNat : Int), .int .u8 (d.u.toNat : Int), .int .u8 (d.w.toNat : Int), .int .u8 (d.m.toNat : Int), .int .u32 (d.e0.toNat : Int), .int .u32 (d.e1.toNat : Int), .int .u32 (d.e2.toNat : Int), .int .u32 (d.e3.toNat : Int)], .slice A n c] w fun e w' => e = .returned (.bool true) ∧ Below w.heap.size w w' := by
  have HT := Lib.hid het
  have HR := Lib.hid hr
  have HN := Lib.hid hn
  have HD := Lib.hid (fun W => pen9_any d W)
  have HX := Lib.hid (show Par.Box (w.alloc (.cells #[.int .u8 (d.a.toNat : Int), .int .u8 (d.u.toNat : Int), .int .u8 (d.w.toNat : Int), .int .u8 (d.m.toNat : Int), .int .u32 (d.e0.toNat : Int), .int .u32 (d.e1.toNat : Int), .int .u32 (d.e2.toNat : Int), .int .u32 (d.e3.toNat : Int)] 52)) w.heap.size [.int .u8 (d.a.toNat : Int), .int .u8 (d.u.toNat : Int), .int .u8 (d.w.toNat : Int), .int .u8 (d.m.toNat : Int), .int .u32 (d.e0.toNat : Int), .int .u32 (d.e1.toNat : Int), .int .u32 (d.e2.toNat : Int), .int .u32 (d.e3.toNat : Int)] from Par.Box.new w _ _)
  clear het hr hn
  generalize (d.a.toNat : Int) = y0 at HD HX ⊢
  generalize (d.u.toNat : Int) = y1 at HD HX ⊢
  generalize (d.w.toNat : Int) = y2 at HD HX ⊢
  generalize (d.m.toNat : Int) = y3 at HD HX ⊢
  generalize (d.e0.toNat : Int) = y4 at HD HX ⊢
  generalize (d.e1.toNat : Int) = y5 at HD HX ⊢
  generalize (d.e2.toNat : Int) = y6 at HD HX ⊢
  generalize (d.e3.toNat : Int) = y7 at HD HX ⊢
  unfold qV at HD
  go_enter Tryd.func6, Tryd.ntmps6
  go_upto_region 3 with (go_at_call 16; refine (works_any _ (HT.out.keep (below_box _ _))).mono ?_; rintro e U ⟨rfl, hb⟩; have HB := Lib.hid (Par.up (below_box _ _) hb); have HX := Lib.hid (HX.out.keep hb); clear hb)
  have x0 := HX.out.cell 0 _ rfl
  have x1 := HX.out.cell 1 _ rfl
  have x2 := HX.out.cell 2 _ rfl
  have x3 := HX.out.cell 3 _ rfl
  have x4 := HX.out.cell 4 _ rfl
  have x5 := HX.out.cell 5 _ rfl
  have x6 := HX.out.cell 6 _ rfl
  have x7 := HX.out.cell 7 _ rfl
  go_upto_region 4 with (go_at_call 17; refine (HD.out _).mono ?_; rintro e U2 ⟨rfl, hb⟩; have HB := Lib.hid (Par.up HB.out hb); clear hb x0 x1 x2 x3 x4 x5 x6 x7)
  have hO : Sty.OwnP (U2.alloc (.cells #[.int .i64 39, .int .i64 (qD d).n, .int .i64 (qD d).m, .int .i64 (qD d).c0, .int .i64 (qD d).c1, .string ⟨#[]⟩] 48)) w.heap.size (.slice (some ⟨U2.heap.size, 0, none⟩) 1 1) (pPs (qds d ds 0)) :=
    Sty.OwnP.new U2 _ HB.out.size [pP (qD d)] #[.int .i64 39, .int .i64 (qD d).n, .int .i64 (qD d).m, .int .i64 (qD d).c0, .int .i64 (qD d).c1, .string ⟨#[]⟩] rfl (by show 1 ≤ maxLen; decide)
  have HO := Lib.hid hO
  have HB := Lib.hid (Par.up HB.out (below_box U2 (.cells #[.int .i64 39, .int .i64 (qD d).n, .int .i64 (qD d).m, .int .i64 (qD d).c0, .int .i64 (qD d).c1, .string ⟨#[]⟩] 48)))
  clear hO HD HX
  generalize U2.alloc (.cells #[.int .i64 39, .int .i64 (qD d).n, .int .i64 (qD d).m, .int .i64 (qD d).c0, .int .i64 (qD d).c1, .string ⟨#[]⟩] 48) = w3 at HO HB ⊢
  generalize Value.slice (some ⟨U2.heap.size, 0, none⟩) 1 1 = v0 at HO ⊢
  go_wp2_with fail
  go_loopw [5, 6] (fun v i wr => ∃ k : Nat, k ≤ n ∧ k ≤ 15 ∧ i = .int .i64 k ∧ Hid (Sty.OwnP wr w.heap.size v (pPs (qds d ds k)) ∧ Below w.heap.size w wr)) (fun _ i _ => 15 - (intOf i).toNat)
  case atStart => exact ⟨0, by omega, by omega, rfl, HO.out, HB.out⟩
  case round =>
    clear HO HB
    obtain ⟨k, hk, hk15, rfl, hid⟩ := hrel
    by_cases hk2 : k < n ∧ k < 15
    · have q1 : (k : Int) < (n : Int) := by omega
      have q2 : (k : Int) < 15 := by omega
      obtain ⟨x, hx⟩ : ∃ x, ds[k]? = some x := ⟨_, List.getElem?_eq_getElem (by have := HN.out; omega)⟩
      obtain ⟨b, o', rfl, hbl, hrg⟩ := HR.out k x hx
      have e1 := fun W => Sty.ixD_run b o' n c k hk2.1 W
      generalize o' + k * 8 = oo at e1 hrg
      have hB := hid.out.2
      have x0 : wr.cell? ⟨b, oo, none⟩ = _ := (hB.cell (p := ⟨b, oo, none⟩) hbl).trans (hrg 0 _ rfl)
      have x1 : wr.cell? ⟨b, oo + 1, none⟩ = _ := (hB.cell (p := ⟨b, oo + 1, none⟩) hbl).trans (hrg 1 _ rfl)
      have x2 : wr.cell? ⟨b, oo + 2, none⟩ = _ := (hB.cell (p := ⟨b, oo + 2, none⟩) hbl).trans (hrg 2 _ rfl)
      have x3 : wr.cell? ⟨b, oo + 3, none⟩ = _ := (hB.cell (p := ⟨b, oo + 3, none⟩) hbl).trans (hrg 3 _ rfl)
      have x4 : wr.cell? ⟨b, oo + 4, none⟩ = _ := (hB.cell (p := ⟨b, oo + 4, none⟩) hbl).trans (hrg 4 _ rfl)
      have x5 : wr.cell? ⟨b, oo + 5, none⟩ = _ := (hB.cell (p := ⟨b, oo + 5, none⟩) hbl).trans (hrg 5 _ rfl)
      have x6 : wr.cell? ⟨b, oo + 6, none⟩ = _ := (hB.cell (p := ⟨b, oo + 6, none⟩) hbl).trans (hrg 6 _ rfl)
      have x7 : wr.cell? ⟨b, oo + 7, none⟩ = _ := (hB.cell (p := ⟨b, oo + 7, none⟩) hbl).trans (hrg 7 _ rfl)
      have HP := Lib.hid (pen9_any x wr)
      unfold qV at HP
      have HS := Lib.hid (qds_snoc d ds k x hx)
      have HL := Lib.hid (qds_len d ds k (by have := HN.out; omega))
      clear hB hrg hbl hx
      generalize hq : qD x = q at HP HS
      clear hq
      go_wp2_with fail
      refine HP.out.mono ?_
      rintro e wB ⟨rfl, hb⟩
      have HO := Lib.hid (hid.out.1.keep hb)
      have HB := Lib.hid (Par.up hid.out.2 hb)
      clear hb x0 x1 x2 x3 x4 x5 x6 x7 e1 hid
      go_wp2_with (at_builtin; refine Sty.wpList_appP _ rfl _ _ rfl w.heap.size _ (pPs (qds d ds k)) rfl (HO.out.keep (below_box wB _)) (some ⟨wB.heap.size, 0, none⟩) 1 1 [pP q] rfl rfl (Sty.RdP.one wB (pP q) 48) (fun h => by cases h) ?hl ?hb0 ?_; rotate_left 2; intro v3 w11 hown3 hb3; rw [HS.out] at hown3; have HO := Lib.hid hown3; have HB := Lib.hid ((Par.up HB.out (below_box wB _)).trans hb3); clear hown3 hb3)
      case hl => simp only [pPs, List.length_map]; have := HL.out; omega
      case hb0 => have := HB.out.size; simp; omega
      go_roundw
      case rel => exact ⟨k + 1, by omega, by omega, by go_num, HO.out, HB.out⟩
      case measure => simp [intOf]; omega
    · have hG := qds_good d ds k (by have := HN.out; omega) hk15
      have hO := hid.out.1
      have HB := Lib.hid hid.out.2
      obtain ⟨qs, hqs⟩ : ∃ qs, qs = qds d ds k := ⟨_, rfl⟩
      have hql : qs.length = k + 1 := by rw [hqs]; exact qds_len d ds k (by have := HN.out; omega)
      rw [← hqs] at hG hO
      have HG := Lib.hid hG
      have HL := Lib.hid hql
      obtain ⟨A0, c0, hs0, hr0⟩ := own_form hO
      rw [hql] at hs0
      subst hs0
      have HR0 := Lib.hid hr0
      have HE := Lib.hid HT.out.e
      have HTt := Lib.hid HT.out.t
      have HK := Lib.hid hk2
      clear hqs hG hO hr0 hql hid HR HX hk2
      have HP1 := Lib.hid (params_good wr (HE.out.keep HB.out) A0 (k + 1) c0 qs HG.out HL.out.symm HR0.out)
      rcases Nat.lt_or_ge k n with q1 | q1
      all_goals have q2 := HK.out
      · have g1 : (k : Int) < (n : Int) := by omega
        have g2 : ¬ (k : Int) < 15 := by omega
        clear q1 q2 HK
        go_upto_region 8 with fail
        go_upto_region 9 with (go_at_call 18; refine HP1.out.mono ?_; rintro e V1 ⟨B1, d1, rfl, r1, hb⟩; have HR1 := Lib.hid r1; have HR0 := Lib.hid (HR0.out.keep hb); have HB := Lib.hid (Par.up HB.out hb); clear r1 hb HP1)
        go_upto_region 10 with (go_at_call 13; refine (pens_good9 _ (HE.out.keep HB.out) _ (k + 1) qs HG.out HL.out.symm HR1.out).mono ?_; rintro e V2 ⟨B2, d2, rfl, r2, hb⟩; have HR2 := Lib.hid r2; have HR0 := Lib.hid (HR0.out.keep hb); have HR1 := Lib.hid (HR1.out.keep hb); have HB := Lib.hid (Par.up HB.out hb); clear r2 hb)
        obtain ⟨s, hs⟩ : ∃ s, s = Par.prtV (qs.map prmV) := ⟨_, rfl⟩
        have HS := Lib.hid hs
        clear hs
        have HPr := Lib.hid (print_good V2 (Par.Tab.keep HTt.out HB.out) (.slice B1 (k + 1) d1) qs HG.out HR1.out s HS.out)
        go_upto_region 11 with (go_at_call 21; refine HPr.out.mono ?_; rintro e V3 ⟨rfl, hb⟩; have HR0 := Lib.hid (HR0.out.keep hb); have HR1 := Lib.hid (HR1.out.keep hb); have HR2 := Lib.hid (HR2.out.keep hb); have HB := Lib.hid (Par.up HB.out hb); clear hb HPr)
        have HPr := Lib.hid (parse_good V3 (k + 1) qs HG.out HL.out.symm s HS.out)
        go_upto_region 12 with (go_at_call 22; refine HPr.out.mono ?_; rintro e V4 ⟨B4, d4, rfl, r4, hb⟩; have HR4 := Lib.hid r4; have HR0 := Lib.hid (HR0.out.keep hb); have HR1 := Lib.hid (HR1.out.keep hb); have HR2 := Lib.hid (HR2.out.keep hb); have HB := Lib.hid (Par.up HB.out hb); clear r4 hb HPr)
        go_upto_region 13 with (go_at_call 13; refine (pens_good9 _ (HE.out.keep HB.out) _ (k + 1) qs HG.out HL.out.symm HR4.out).mono ?_; rintro e V5 ⟨B5, d5, rfl, r5, hb⟩; have HR5 := Lib.hid r5; have HR0 := Lib.hid (HR0.out.keep hb); have HR1 := Lib.hid (HR1.out.keep hb); have HR2 := Lib.hid (HR2.out.keep hb); have HR4 := Lib.hid (HR4.out.keep hb); have HB := Lib.hid (Par.up HB.out hb); clear r5 hb)
        go_wp2_with (first
          | (go_at_call 15; refine (same_good _ B2 A0 (k + 1) d2 c0 qs HG.out HL.out.symm HR2.out HR0.out).mono ?_; rintro e V6 ⟨rfl, hb⟩; have HR0 := Lib.hid (HR0.out.keep hb); have HR1 := Lib.hid (HR1.out.keep hb); have HR5 := Lib.hid (HR5.out.keep hb); have HR4 := Lib.hid (HR4.out.keep hb); have HB := Lib.hid (Par.up HB.out hb); clear hb HR2)
          | (go_at_call 15; refine (same_good _ B5 A0 (k + 1) d5 c0 qs HG.out HL.out.symm HR5.out HR0.out).mono ?_; rintro e V7 ⟨rfl, hb⟩; have HR1 := Lib.hid (HR1.out.keep hb); have HR4 := Lib.hid (HR4.out.keep hb); have HB := Lib.hid (Par.up HB.out hb); clear hb HR5 HR0)
          | (go_at_call 20; refine (rsame_good _ _ _ qs HG.out HR1.out HR4.out).mono ?_; rintro e V8 ⟨rfl, hb⟩; have HB := Lib.hid (Par.up HB.out hb); clear hb HR1 HR4))
        go_ret
        exact ⟨rfl, HB.out⟩
      · have g1 : ¬ (k : Int) < (n : Int) := by omega
        clear q1 q2 HK
        go_upto_region 8 with fail
        go_upto_region 9 with (go_at_call 18; refine HP1.out.mono ?_; rintro e V1 ⟨B1, d1, rfl, r1, hb⟩; have HR1 := Lib.hid r1; have HR0 := Lib.hid (HR0.out.keep hb); have HB := Lib.hid (Par.up HB.out hb); clear r1 hb HP1)
        go_upto_region 10 with (go_at_call 13; refine (pens_good9 _ (HE.out.keep HB.out) _ (k + 1) qs HG.out HL.out.symm HR1.out).mono ?_; rintro e V2 ⟨B2, d2, rfl, r2, hb⟩; have HR2 := Lib.hid r2; have HR0 := Lib.hid (HR0.out.keep hb); have HR1 := Lib.hid (HR1.out.keep hb); have HB := Lib.hid (Par.up HB.out hb); clear r2 hb)
        obtain ⟨s, hs⟩ : ∃ s, s = Par.prtV (qs.map prmV) := ⟨_, rfl⟩
        have HS := Lib.hid hs
        clear hs
        have HPr := Lib.hid (print_good V2 (Par.Tab.keep HTt.out HB.out) (.slice B1 (k + 1) d1) qs HG.out HR1.out s HS.out)
        go_upto_region 11 with (go_at_call 21; refine HPr.out.mono ?_; rintro e V3 ⟨rfl, hb⟩; have HR0 := Lib.hid (HR0.out.keep hb); have HR1 := Lib.hid (HR1.out.keep hb); have HR2 := Lib.hid (HR2.out.keep hb); have HB := Lib.hid (Par.up HB.out hb); clear hb HPr)
        have HPr := Lib.hid (parse_good V3 (k + 1) qs HG.out HL.out.symm s HS.out)
        go_upto_region 12 with (go_at_call 22; refine HPr.out.mono ?_; rintro e V4 ⟨B4, d4, rfl, r4, hb⟩; have HR4 := Lib.hid r4; have HR0 := Lib.hid (HR0.out.keep hb); have HR1 := Lib.hid (HR1.out.keep hb); have HR2 := Lib.hid (HR2.out.keep hb); have HB := Lib.hid (Par.up HB.out hb); clear r4 hb HPr)
        go_upto_region 13 with (go_at_call 13; refine (pens_good9 _ (HE.out.keep HB.out) _ (k + 1) qs HG.out HL.out.symm HR4.out).mono ?_; rintro e V5 ⟨B5, d5, rfl, r5, hb⟩; have HR5 := Lib.hid r5; have HR0 := Lib.hid (HR0.out.keep hb); have HR1 := Lib.hid (HR1.out.keep hb); have HR2 := Lib.hid (HR2.out.keep hb); have HR4 := Lib.hid (HR4.out.keep hb); have HB := Lib.hid (Par.up HB.out hb); clear r5 hb)
        go_wp2_with (first
          | (go_at_call 15; refine (same_good _ B2 A0 (k + 1) d2 c0 qs HG.out HL.out.symm HR2.out HR0.out).mono ?_; rintro e V6 ⟨rfl, hb⟩; have HR0 := Lib.hid (HR0.out.keep hb); have HR1 := Lib.hid (HR1.out.keep hb); have HR5 := Lib.hid (HR5.out.keep hb); have HR4 := Lib.hid (HR4.out.keep hb); have HB := Lib.hid (Par.up HB.out hb); clear hb HR2)
          | (go_at_call 15; refine (same_good _ B5 A0 (k + 1) d5 c0 qs HG.out HL.out.symm HR5.out HR0.out).mono ?_; rintro e V7 ⟨rfl, hb⟩; have HR1 := Lib.hid (HR1.out.keep hb); have HR4 := Lib.hid (HR4.out.keep hb); have HB := Lib.hid (Par.up HB.out hb); clear hb HR5 HR0)
          | (go_at_call 20; refine (rsame_good _ _ _ qs HG.out HR1.out HR4.out).mono ?_; rintro e V8 ⟨rfl, hb⟩; have HB := Lib.hid (Par.up HB.out hb); clear hb HR1 HR4))
        go_ret
        exact ⟨rfl, HB.out⟩
end Go.Proofs.YtdgainaeaabieaaDoor.Sgr
