/-
  Contract of the decoder's report.
-/
import Derived.Test.YtefkbdmgplfgoaaGreatDoorStaW
import Derived.Deep.RegionLawGrows
namespace Go.Proofs.YtefkbdmgplfgoaaGreatDoor.Sta
open Go.RowKit Utf Par
variable {X : Nat → Prop}

/-- an append of some events, with where the row lies behind it -/
theorem run_appV1 (w : World) (base : Nat) (ty : TypeId) (v : Value) (xs : List EQ) (hown : OwnV w base v xs) (ad : Addr) (m c : Nat) (ys : List EQ) (hm : ys.length = m) (hr : RdE w (some ad) ys)
    (hsmall : xs.length + m ≤ 100000) (hbase : base ≤ w.heap.size) :
    ∃ v' w', (Builtin.append_ #[41, 41] ty #[v, .slice (some ad) m c]).run Tryz.prog w = .ok v' w' ∧ OwnV w' base v' (xs ++ ys) ∧ w.grownBy w' v.ownBlock ∧ (v'.ownBlock = v.ownBlock ∨ v'.ownBlock = some w.heap.size) := by
  obtain ⟨i, hi, hz, hs, hb⟩ := info_parts infoE
  have hcells : ∀ j u, (ys.flatMap cE)[j]? = some u → w.cell? (ad.add j) = some u := fun j u hu => by
    have hj : j < ys.length * 7 := by rw [← flat_len]; exact (List.getElem?_eq_some_iff.1 hu).1
    have hq : ∃ p, ys[j / 7]? = some p := ⟨_, List.getElem?_eq_getElem (by omega)⟩
    obtain ⟨p, hp⟩ := hq
    obtain ⟨b, o, hA', _, hc⟩ := hr _ p hp
    cases hA'
    have h1 := flat_at ys (j / 7) p (j % 7) hp (by omega)
    rw [show j / 7 * 7 + j % 7 = j by omega, hu] at h1
    have h2 := hc (j % 7) u h1.symm
    rw [show o + j / 7 * 7 + j % 7 = o + j by omega] at h2
    rw [Addr.add_mid]
    exact h2
  obtain ⟨v', w', hrun, h2, h3, _, h4⟩ := run_append_own_at (P := Tryz.prog) w base 41 ty 27 i _ 7 80 Tryz.underlying41 hi hz hs hb rfl (by omega) v xs.length (xs.flatMap cE) hown ad m c (ys.flatMap cE) (by rw [flat_len, hm]) hcells (flat_one ys) (by unfold maxLen; omega) (by omega) hbase
  refine ⟨v', w', hrun, ?_, h3, h4⟩
  have := h2
  rw [← List.flatMap_append, ← hm, ← List.length_append] at this
  exact this
theorem step_appV (w : World) {ops : Array Oper} {o : Oper} {a : Act} {K : Act → World → Prop} {Q : Exit → Act → World → Prop} {E : Prop} (hgd : o.guard = none) (s x : Operand)
    (ho : o.op = .call { callee := .builtin .append, args := #[s, x], argTypes := #[41, 41] })
    (base : Nat) (v : Value) (xs : List EQ) (hs : a.eval s = v) (hown : OwnV w base v xs) (ad : Addr) (m c : Nat) (ys : List EQ) (hx : a.eval x = .slice (some ad) m c) (hm : ys.length = m) (hr : RdE w (some ad) ys)
    (hsmall : xs.length + m ≤ 100000) (hbase : base ≤ w.heap.size) (h : ∀ v' w', OwnV w' base v' (xs ++ ys) → (v'.ownBlock = v.ownBlock ∨ v'.ownBlock = some w.heap.size) → w.grownBy w' v.ownBlock → K (a.put o.dst v') w') :
    if Region.wanted o (yielded ops a.tmps) = true then Oper.wp Tryz.prog o a w K Q else E := by
  have hw : Region.wanted o (yielded ops a.tmps) = true := by simp [Region.wanted, hgd]
  rw [if_pos hw]
  obtain ⟨v', w', hrun, h2, h3, h4⟩ := run_appV1 w base o.type v xs hown ad m c ys hm hr hsmall hbase
  unfold Oper.wp execOp
  simp only [ho, resolve, invoke, builtin, Sem.run_bind, Sem.run_pure, Result.andThen_ok, List.map_toArray, List.map_cons, List.map_nil, hs, hx, hrun]
  exact h v' w' h2 h4 h3
set_option maxRecDepth 100000 in
set_option maxHeartbeats 4000000 in
theorem report_any (b : Nat) (g : Option Nat) (w : World) (p : PS) (l : List EV) (e : EV) (A : Option Addr) (n c : Nat) (h : Dec X b g w p l) (he : RLx X b g w (.slice A n c) e.ps) (hs : l.length ≤ 90000) :
    Calls Tryz.prog 70 #[.pointer (some ⟨b, 0, none⟩), .agg #[.int .i64 e.k, .int .i64 e.c, .int .u8 (e.pr.toNat : Int), .int .u8 (e.fi.toNat : Int), .slice A n c, .string e.it, .string e.tx]] w (Did X b g w (p, [e]) l) := by
  obtain ⟨u, q, v, xs, hx, hv, hl, hg, hu, hq, hxs, hX⟩ := h
  have hsm : xs.length + 1 ≤ 100000 := by rw [← hl, List.length_map] at hs; omega
  clear hs
  have hbs := hx.1
  have e1 := Box.new w #[.int .i64 e.k, .int .i64 e.c, .int .u8 (e.pr.toNat : Int), .int .u8 (e.fi.toNat : Int), .slice A n c, .string e.it, .string e.tx] 27
  have hx1 := (hx.alloc (.cells #[.int .i64 e.k, .int .i64 e.c, .int .u8 (e.pr.toNat : Int), .int .u8 (e.fi.toNat : Int), .slice A n c, .string e.it, .string e.tx] 27))
  have hb1 := below_box w (.cells #[.int .i64 e.k, .int .i64 e.c, .int .u8 (e.pr.toNat : Int), .int .u8 (e.fi.toNat : Int), .slice A n c, .string e.it, .string e.tx] 27)
  have HX := Lib.hid hx
  have HL := Lib.hid hl
  have HG := Lib.hid hg
  have HV := Lib.hid hv
  have HXS := Lib.hid hxs
  have HXX := Lib.hid hX
  have HU := Lib.hid hu
  have HQ := Lib.hid hq
  have HE := Lib.hid he
  clear hl hg hx hv hxs hu hq hX he
  obtain ⟨ek, ec, epr, efi, eps, eit, etx⟩ := e
  dsimp only at *
  go_enter Tryz.func70, Tryz.ntmps70
  go_wp2_with fail
  have HB1 := Lib.hid hb1
  have hz1 : (w.alloc (.cells #[.int .i64 ek, .int .i64 ec, .int .u8 (epr.toNat : Int), .int .u8 (efi.toNat : Int), .slice A n c, .string eit, .string etx] 27)).heap.size = w.heap.size + 1 := World.size_alloc ..
  generalize w.alloc (.cells #[.int .i64 ek, .int .i64 ec, .int .u8 (epr.toNat : Int), .int .u8 (efi.toNat : Int), .slice A n c, .string eit, .string etx] 27) = w1 at e1 hx1 HB1 hz1 hb1 ⊢
  clear hb1
  have c8 := hx1.cell 8 _ rfl
  have f8 := hx1.free 8 (by show 8 < 9; decide)
  have x0 := e1.cell 0 _ rfl
  have x1 := e1.cell 1 _ rfl
  have x2 := e1.cell 2 _ rfl
  have x3 := e1.cell 3 _ rfl
  have x4 := e1.cell 4 _ rfl
  have x5 := e1.cell 5 _ rfl
  have x6 := e1.cell 6 _ rfl
  have HX1 := Lib.hid hx1
  have HZ1 := Lib.hid hz1
  have hbs1 : b < w1.heap.size := hx1.1
  have HV1 := Lib.hid (OwnV.keep HV.out HB1.out)
  have HN := Lib.hid (show v.ownBlock ≠ some b from fun x => by have := (OwnV.blk HV.out b x).1; omega)
  obtain ⟨W2, hW2⟩ : ∃ W2, W2 = (w1.alloc (.cells #[.int .i64 ek, .int .i64 ec, .int .u8 (epr.toNat : Int), .int .u8 (efi.toNat : Int), .slice A n c, .string eit, .string etx] 27)).drew := ⟨_, rfl⟩
  have HE2 := Lib.hid (show RdE W2 (some ⟨w1.heap.size, 0, none⟩) [⟨⟨ek, ec, epr, efi, eps, eit, etx⟩, A, n, c⟩] by rw [hW2]; exact (RdE.one w1 ⟨⟨ek, ec, epr, efi, eps, eit, etx⟩, A, n, c⟩ 27).keep ((Below.refl _ _).drew))
  have HV2 := Lib.hid (show OwnV W2 (b + 1) v xs by rw [hW2]; exact HV1.out.keep ((below_box _ _).drew))
  have HX2 := Lib.hid (show Box W2 b (cD p u q v) by rw [hW2]; exact (hx1.alloc _).drew)
  have HS2 := Lib.hid (show b + 1 ≤ W2.heap.size by rw [hW2]; show b + 1 ≤ (w1.alloc _).heap.size; rw [World.size_alloc]; omega)
  have HB2 := Lib.hid (show Below w1.heap.size w1 W2 by rw [hW2]; exact (below_box _ _).drew)
  have HW2 := Lib.hid hW2
  clear hx1 e1 hz1 hW2
  go_region_law (rw [← HW2.out]; refine step_appV _ rfl (.tmp 8) (.tmp 10) rfl (b + 1) v xs (by simp [Act.eval]) HV2.out ⟨w1.heap.size, 0, none⟩ 1 1 [⟨⟨ek, ec, epr, efi, eps, eit, etx⟩, A, n, c⟩] (by simp [Act.eval]) rfl HE2.out hsm HS2.out ?_; intro v' w' hown hnew hgrow; have HNew := Lib.hid hnew; clear hnew; have hx3 := HX2.out.grown hgrow (fun x => HN.out x.symm); have y8 := hx3.cell 8 _ rfl; have z8 := hx3.free 8 (by show 8 < 9; decide); have HX3 := Lib.hid hx3; clear hx3; obtain ⟨A2, c2, hv2, hc2, hc3⟩ := hown.form; subst hv2; have HO := Lib.hid hown; clear hown; generalize (xs ++ [(⟨⟨ek, ec, epr, efi, eps, eit, etx⟩, A, n, c⟩ : EQ)]).length = m at HO HNew ⊢)
  all_goals
    go_end0
    have hf1 : Frm b g g w w1 := Frm.of_below HB1.out (Nat.le_of_lt hbs)
    have hf2 : Frm b g g w1 W2 := Frm.of_below HB2.out (Nat.le_of_lt hbs1)
    have hf3 : Frm b g _ W2 w' := Frm.of_grow (HG.out ▸ hgrow) (by have := HS2.out; omega) (fun k hk => by have := (OwnV.blk HV2.out k (HG.out.trans hk)).1; omega) (by rcases HNew.out with x | x; exact .inl (x.trans HG.out); exact .inr ⟨_, x, Nat.le_refl _⟩)
    have hf := (hf1.trans hf2).trans hf3
    obtain ⟨h1, h2⟩ := Dec.put HXX.out HO.out rfl rfl (fun x hx => by
        rcases List.mem_append.1 hx with h | h
        · exact (HXS.out x h).frm hf
        · obtain rfl := List.mem_singleton.1 h
          exact HE.out.frm hf) HX3.out.1 (grown_set _ b 8 _) (Box.set HX3.out 8 _) (HU.out.frm hf) (HQ.out.frm hf)
    refine ⟨rfl, _, ?_, hf.trans h2⟩
    rw [← HL.out]
    rw [List.map_append] at h1
    exact h1
end Go.Proofs.YtefkbdmgplfgoaaGreatDoor.Sta
