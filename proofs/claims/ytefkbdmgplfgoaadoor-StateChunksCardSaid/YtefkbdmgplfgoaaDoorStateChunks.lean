/-
  Feeding in pieces: the plain function, and the law's row of events beside a parse in a box. The walk of StateChunks.
-/
import Derived.Test.YtefkbdmgplfgoaaDoorStaAm
import Derived.Deep.RegionHeld3
import Derived.Deep.CutBlock
import Derived.IntWalk
namespace Go.Proofs.YtefkbdmgplfgoaaDoor.Sta
open Go.RowKit Utf Par

theorem pre_len {u : List UInt8} (h : preB u = true) : u.length ≤ 100 := by
  cases u with
  | nil => exact Nat.zero_le _
  | cons b r =>
    have h1 := preB_fl h
    have h2 : fl b ≤ 4 := by unfold fl; repeat' split
                             all_goals omega
    simp only [List.length_cons]
    omega
theorem may_lim {p : PS} (h : mayS p = true) : (-100000 ≤ p.st ∧ p.st ≤ 100000) ∧ p.utf.length ≤ 1000000 ∧ Kq p.ps ∧ p.it.size ≤ 1000000 ∧ p.tx.size ≤ 1000000 := by
  have h0 := may_st h
  refine ⟨by omega, ?_, may_kq h, ?_, ?_⟩
  all_goals
    cases hb : p.bad with
    | true =>
      obtain ⟨e, _⟩ := may_bad h hb
      rw [e]
      show 0 ≤ _
      omega
    | false =>
      have g := (may_good hb).1 h
      first
        | (rcases g.utf with e | ⟨e, _⟩
           · rw [e]; show 0 ≤ _; omega
           · have := pre_len e; omega)
        | (have := g.itm; unfold mostS at this; split at this <;> omega)
        | (have := g.txl; omega)
theorem fed_piece (bs : List UInt8) (a n : Nat) (h : n ≤ 4096) :
    (fedS (runS (begS 0, []) (bs.take a)).1 ((bs.drop a).take n)).1 = (runS (begS 0, []) (bs.take (a + n))).1 ∧
    (runS (begS 0, []) (bs.take a)).2 ++ (fedS (runS (begS 0, []) (bs.take a)).1 ((bs.drop a).take n)).2.1 = (runS (begS 0, []) (bs.take (a + n))).2 ∧
    (fedS (runS (begS 0, []) (bs.take a)).1 ((bs.drop a).take n)).2.2 = 0 := by
  have hmay := run_may (bs.take a) (begS 0, []) (by decide)
  have hl : ¬ (4096 < ((bs.drop a).take n).length) := by rw [List.length_take]; omega
  unfold fedS
  rw [if_pos hmay, if_neg hl, List.take_add, runS_app]
  have := runS_ev (runS (begS 0, []) (bs.take a)).1 (runS (begS 0, []) (bs.take a)).2 ((bs.drop a).take n)
  refine ⟨?_, ?_, rfl⟩
  · rw [this]
  · rw [this]
theorem wpList_appV1 (w : World) {ops : Array Oper} {rest : List Oper} {o : Oper} {a : Act} {Q : Exit → Act → World → Prop} (hgd : o.guard = none) (s x : Operand)
    (ho : o.op = .call { callee := .builtin .append, args := #[s, x], argTypes := #[27, 27] })
    (base : Nat) (v : Value) (xs : List EQ) (hs : a.eval s = v) (hown : OwnV w base v xs) (A : Option Addr) (m c : Nat) (ys : List EQ) (hx : a.eval x = .slice A m c) (hm : ys.length = m) (hr : RdE w A ys)
    (hsmall : xs.length + m ≤ 100000) (hbase : base ≤ w.heap.size) (h : ∀ v' w', OwnV w' base v' (xs ++ ys) → (v'.ownBlock = v.ownBlock ∨ v'.ownBlock = some w.heap.size) → w.grownBy w' v.ownBlock → wpList Tryd.prog ops Q rest (a.put o.dst v') w') : wpList Tryd.prog ops Q (o :: rest) a w :=
  wpList_plain hgd fun K hK => by
    have hrun : ∃ v' w', (Builtin.append_ #[27, 27] o.type #[v, .slice A m c]).run Tryd.prog w = .ok v' w' ∧ OwnV w' base v' (xs ++ ys) ∧ w.grownBy w' v.ownBlock ∧ (v'.ownBlock = v.ownBlock ∨ v'.ownBlock = some w.heap.size) := by
      cases A with
      | none =>
        obtain ⟨i, hi, hz, hs, hb⟩ := info_parts infoE
        obtain rfl : ys = [] := by
          cases ys with
          | nil => rfl
          | cons y r =>
            obtain ⟨b, o, h, _⟩ := hr 0 y rfl
            cases h
        obtain rfl : m = 0 := hm.symm
        have hrun : (Builtin.append_ #[27, 27] o.type #[v, .slice none 0 c]).run Tryd.prog w = .ok v w := by
          rcases hown.2 with ⟨rfl, h0⟩ | ⟨g, cap, cur, rfl, _, _, hnc, _⟩
          · simp [Builtin.append_, run_underlying Tryd.underlying27, sizeOf, typeInfo, hi, Builtin.lenOf, Builtin.firstCells]
          · simp [Builtin.append_, run_underlying Tryd.underlying27, sizeOf, typeInfo, hi, Builtin.lenOf, Builtin.firstCells, hnc, storeCells]
        exact ⟨v, w, hrun, by simpa using hown, ⟨rfl, rfl, rfl, Nat.le_refl _, fun _ _ _ => rfl⟩, .inl rfl⟩
      | some ad => exact run_appV1 w base o.type v xs hown ad m c ys hm hr hsmall hbase
    obtain ⟨v', w', hrun, h2, h3, h4⟩ := hrun
    unfold Oper.wp execOp
    simp only [ho, resolve, invoke, builtin, Sem.run_bind, Sem.run_pure, Result.andThen_ok, List.map_toArray, List.map_cons, List.map_nil, hs, hx, hrun]
    exact hK _ _ (h v' w' h2 h4 h3)
/-- the law's parse in box b8, its row of events v, and their slices, which lie off both -/
def Chn (B b8 : Nat) (v : Value) (wr : World) (p : PS) (l : List EV) : Prop :=
  ∃ u q xs, Box wr b8 (cS p u q).toList ∧ OwnV wr B v xs ∧ xs.map (·.e) = l ∧ RBx (fun _ => True) b8 v.ownBlock wr u p.utf ∧ RLx (fun _ => True) b8 v.ownBlock wr q p.ps ∧ ∀ x ∈ xs, RLx (fun _ => True) b8 v.ownBlock wr (.slice x.A x.n x.c) x.e.ps
theorem bytes_cut {w : World} {ad : Addr} {bs : List UInt8} (h : Rd w (some ad) (cB bs)) (a n : Nat) : Rd w (some (ad.add a)) (cB ((bs.drop a).take n)) := fun j u hu => by
  have hj : j < ((bs.drop a).take n).length := by have := (List.getElem?_eq_some_iff.1 hu).1; rwa [cB_len] at this
  obtain ⟨c, hc⟩ := get_some _ j hj
  have hu2 := cB_at _ j c hc
  rw [hu] at hu2
  injection hu2 with hu2
  rw [List.getElem?_take_of_lt (by rw [List.length_take] at hj; omega), List.getElem?_drop] at hc
  obtain ⟨ad', e, hlt, hcell⟩ := h (a + j) _ (cB_at bs _ c hc)
  injection e with e
  subst e
  have eb : ∀ (x : Addr) (k : Nat), (x.add k).block = x.block := fun x k => by unfold Addr.add; split <;> rfl
  have ea : (ad.add a).add j = ad.add (a + j) := by
    unfold Addr.add
    by_cases h1 : j = 0
    · subst h1; simp
    · by_cases h2 : a = 0
      · subst h2; simp [h1]
      · simp [h1, h2, Nat.add_assoc]
  exact ⟨_, rfl, by rw [eb]; exact hlt, by rw [ea, hu2]; exact hcell⟩
end Go.Proofs.YtefkbdmgplfgoaaDoor.Sta
namespace Go.Proofs.YtefkbdmgplfgoaaDoor.Sta
open Go.RowKit Utf Par

/-- what lies behind the law's call of Feed -/
def Fed14 (X : Nat → Prop) (wr : World) (R : PS) (E : List EV) (s13 s14 s15 : Value) (wx : World) : Prop :=
  ∃ g u q v xs, s13 = .pointer (some ⟨g, 0, none⟩) ∧ s14 = v ∧ s15 = .int .i64 0 ∧ Box wx g (cS R u q).toList ∧ PX X wx u q R ∧ OwnV wx wr.heap.size v xs ∧ xs.map (·.e) = E ∧ EX X wx xs ∧ Below wr.heap.size wr wx
theorem PX.set {X : Nat → Prop} {B : Nat} {w w' : World} {u q : Value} {p : PS} (h : PX (fun k => X k ∧ k ≠ B) w u q p) (hg : w.grownBy w' (some B)) (hB : B ≤ w.heap.size) : PX X w' u q p := by
  have hf : Frm B none none w w' := Frm.of_set hg hB
  have o : ∀ v, LX (fun k => X k ∧ k ≠ B) v → Off X B none v := fun v hv ad n c e h0 => ⟨(hv ad n c e h0).2, by simp, (hv ad n c e h0).1⟩
  exact PX.of (RBx.frm ⟨h.1.1, o _ h.2.1⟩ hf) (RLx.frm ⟨h.1.2, o _ h.2.2.1, fun A n c j x e hj hx => o _ (h.2.2.2 A n c j x e hj hx)⟩ hf)
theorem EX.set {X : Nat → Prop} {B : Nat} {w w' : World} {xs : List EQ} (h : EX (fun k => X k ∧ k ≠ B) w xs) (hg : w.grownBy w' (some B)) (hB : B ≤ w.heap.size) : EX X w' xs := fun x hx => by
  have hf : Frm B none none w w' := Frm.of_set hg hB
  have o : ∀ v, LX (fun k => X k ∧ k ≠ B) v → Off X B none v := fun v hv ad n c e h0 => ⟨(hv ad n c e h0).2, by simp, (hv ad n c e h0).1⟩
  have hq := h x hx
  have hr := RLx.frm ⟨hq.1, o _ hq.2.1, fun A n c j y e hj hy => o _ (hq.2.2 A n c j y e hj hy)⟩ hf
  exact ⟨hr.1, off_lx hr.2.1, pl_lx hr.2.2⟩
theorem EX.weak {X Y : Nat → Prop} {w : World} {xs : List EQ} (h : EX X w xs) (hy : ∀ k, X k → Y k) : EX Y w xs := fun x hx =>
  have hq := h x hx
  ⟨hq.1, fun ad n c e h0 => hy _ (hq.2.1 ad n c e h0), fun A n c j y e hj hx' ad m d e' h0 => hy _ (hq.2.2 A n c j y e hj hx' ad m d e' h0)⟩
theorem PX.weak {X Y : Nat → Prop} {w : World} {u q : Value} {p : PS} (h : PX X w u q p) (hy : ∀ k, X k → Y k) : PX Y w u q p :=
  ⟨h.1, fun ad n c e h0 => hy _ (h.2.1 ad n c e h0), fun ad n c e h0 => hy _ (h.2.2.1 ad n c e h0), fun A n c j y e hj hx' ad m d e' h0 => hy _ (h.2.2.2 A n c j y e hj hx' ad m d e' h0)⟩
/-- off a box and off a row -/
theorem PX.offs {b : Nat} {g : Option Nat} {w : World} {u q : Value} {p : PS} (h : PX (fun k => k ≠ b ∧ some k ≠ g) w u q p) : RBx (fun _ => True) b g w u p.utf ∧ RLx (fun _ => True) b g w q p.ps := by
  have o : ∀ v, LX (fun k => k ≠ b ∧ some k ≠ g) v → Off (fun _ => True) b g v := fun v hv ad n c e h0 => ⟨(hv ad n c e h0).1, (hv ad n c e h0).2, trivial⟩
  exact ⟨⟨h.1.1, o _ h.2.1⟩, ⟨h.1.2, o _ h.2.2.1, fun A n c j x e hj hx => o _ (h.2.2.2 A n c j x e hj hx)⟩⟩
theorem EX.offs {b : Nat} {g : Option Nat} {w : World} {xs : List EQ} (h : EX (fun k => k ≠ b ∧ some k ≠ g) w xs) : ∀ x ∈ xs, RLx (fun _ => True) b g w (.slice x.A x.n x.c) x.e.ps := fun x hx => by
  have o : ∀ v, LX (fun k => k ≠ b ∧ some k ≠ g) v → Off (fun _ => True) b g v := fun v hv ad n c e h0 => ⟨(hv ad n c e h0).1, (hv ad n c e h0).2, trivial⟩
  have hq := h x hx
  exact ⟨hq.1, o _ hq.2.1, fun A n c j y e hj hy => o _ (hq.2.2 A n c j y e hj hy)⟩
theorem slice_mid (ad : Addr) (N c a n : Nat) (h1 : a < c) (h2 : a + n ≤ c) :
    (∀ W, (Instr.sliceAt 22 (.slice (some ad) N c) (some (.int .i64 (a : Int))) (some (.int .i64 ((a : Int) + (n : Int)))) none).run Tryd.prog W = .ok (.slice (some (ad.add a)) n (c - a)) W) ∧
    (∀ W, (Instr.slice 22 (.slice (some ad) N c) (some (.int .i64 (a : Int))) (some (.int .i64 ((a : Int) + (n : Int)))) none).run Tryd.prog W = .ok (.slice (some (ad.add a)) n (c - a)) W) := by
  have e : ((a : Int) + (n : Int)).toNat = a + n := by omega
  have k0 : (0 : Int) ≤ (a : Int) := by omega
  have k1 : (a : Int) ≤ (a : Int) + (n : Int) := by omega
  have k2 : (a : Int) + (n : Int) ≤ (c : Int) := by omega
  refine ⟨?_, ?_⟩ <;> intro W <;> (go_simp; intro h; omega)
theorem min_400 (n : Nat) : (if (400 : Int) < (n : Int) then (400 : Int) else (n : Int)) = ((min n 400 : Nat) : Int) := by split <;> omega
attribute [local go_sem] min_400
set_option maxRecDepth 100000 in
set_option maxHeartbeats 8000000 in
theorem chunks_any (A0 A1 : Option Addr) (n0 c0 n1 c1 : Nat) (bs cs : List UInt8) (w : World) (r0 : Rd w A0 (cB bs)) (l0 : bs.length = n0) (b0 : n0 ≤ c0 ∧ c0 ≤ maxLen) (r1 : Rd w A1 (cB cs)) (l1 : cs.length = n1) (b1 : n1 ≤ c1 ∧ c1 ≤ maxLen) (hm : Mk w) (hf : Tf w) :
    Calls Tryd.prog 3 #[.slice A0 n0 c0, .slice A1 n1 c1] w fun e w' => e = .returned (.bool true) ∧ Below w.heap.size w w' := by
  have HW := Lib.hid (works_any w hm hf)
  have HM := Lib.hid hm
  have HF := Lib.hid hf
  have R0 := Lib.hid r0
  have R1 := Lib.hid r1
  have L0 := Lib.hid l0
  have L1 := Lib.hid l1
  have hc0 : (n0 : Int) ≤ (c0 : Int) := by omega
  have hc1 : (n1 : Int) ≤ (c1 : Int) := by omega
  have hm0 : min n0 400 ≤ c0 := by omega
  have hm1 : ((min n0 400 : Nat) : Int) ≤ (c0 : Int) := by omega
  have hm2 : (0 : Int) ≤ ((min n0 400 : Nat) : Int) := by omega
  clear hm hf r0 r1 l0 l1 b0 b1
  go_enter Tryd.func3, Tryd.ntmps3
  go_upto_region 4 with (go_at_call 7; refine HW.out.mono ?_; rintro e w1 ⟨rfl, hb1⟩; have HB1 := Lib.hid hb1; clear hb1)
  rename_i K4 hK4
  have HK4 := Lib.hid hK4
  clear hK4
  obtain ⟨N, hN⟩ : ∃ N, N = min n0 400 := ⟨_, rfl⟩
  rw [← hN] at hm0 hm1 hm2 ⊢
  have h400 : N ≤ 400 := by omega
  have hlN : (bs.take N).length = N := by rw [List.length_take, L0.out]; omega
  have HN := Lib.hid hN
  clear hN
  obtain ⟨ds, hds⟩ : ∃ ds, ds = bs.take N := ⟨_, rfl⟩
  rw [← hds] at hlN
  have RD := Lib.hid (show Rd w A0 (cB ds) from by
    rw [hds]
    intro j u hu
    have hj : j < (bs.take N).length := by have := (List.getElem?_eq_some_iff.1 hu).1; rwa [cB_len] at this
    refine R0.out j u ?_
    rw [← hu]
    simp only [cB, List.map_take] at hj ⊢
    rw [List.getElem?_take_of_lt (by simpa using (by rw [List.length_take] at hj; omega))])
  have LD := Lib.hid hlN
  clear hds hlN
  have hrd1 := RD.out.below HB1.out
  obtain ⟨P, hP⟩ : ∃ P, P = runS (begS 0, []) ds := ⟨_, rfl⟩
  have hfe : fedS (begS 0) ds = (P.1, P.2, 0) := by
    unfold fedS
    rw [if_pos (by decide), if_neg (by rw [LD.out]; omega), hP]
  have hPm : mayS P.1 = true := by rw [hP]; exact run_may ds _ (by decide)
  have hPl : P.2.length ≤ 2 * N := by have := run_len ds (begS 0, []); rw [← hP, LD.out] at this; simpa using this
  have HPm := Lib.hid hPm
  have HPl := Lib.hid hPl
  have HPE := Lib.hid hP
  clear hPm hPl hP
  have hfd := feed_any (fun _ => True) (begS 0) none none A0 0 0 0 0 N c0 ds w1 (PX.nil _ _ _ rfl rfl) (fun _ _ => trivial) (HM.out.keep HB1.out) (HF.out.keep HB1.out) hrd1 LD.out.symm (by omega) (by show (-100000 : Int) ≤ 0 ∧ (0 : Int) ≤ 100000; omega) (by show (0 : Nat) ≤ _; omega) kq_nil (by show (0 : Nat) ≤ _; omega) (by show (0 : Nat) ≤ _; omega)
  rw [hfe] at hfd
  have HFD := Lib.hid hfd
  clear hfd hfe hrd1
  obtain ⟨⟨st, utf, pr, fi, pp, it, tx, bad⟩, L⟩ := P
  go_upto_region 5 with (go_at_call 8; refine HFD.out.mono ?_; rintro e w2 ⟨u, q, v, xs, he0, hp2, hv2, hx2, he2, hb2⟩; have he1 : e = .returned (.tuple #[.agg #[.int .i64 st, u, .int .u8 (pr.toNat : Int), .int .u8 (fi.toNat : Int), q, .string it, .string tx, .bool bad], v, .int .i64 0]) := he0; clear he0; subst he1; obtain ⟨Au, cu, rfl⟩ := hp2.1.1.form; obtain ⟨Aq, cq, rfl⟩ := hp2.1.2.form; obtain ⟨Av, cv, rfl, -, -⟩ := hv2.form; have HB2 := Lib.hid (up HB1.out hb2); have HP2 := Lib.hid hp2; have HV2 := Lib.hid hv2; have HX2 := Lib.hid hx2; have HE2 := Lib.hid he2; clear hp2 hv2 hx2 he2 hb2)
  show K4 _ _
  refine HK4.out _ _ ?_
  clear HK4
  have hb3 := below_box w2 (.cells #[.int .i64 st, .slice Au utf.length cu, .int .u8 (pr.toNat : Int), .int .u8 (fi.toNat : Int), .slice Aq pp.length cq, .string it, .string tx, .bool bad] 26)
  have hx3 := Box.new w2 #[.int .i64 st, .slice Au utf.length cu, .int .u8 (pr.toNat : Int), .int .u8 (fi.toNat : Int), .slice Aq pp.length cq, .string it, .string tx, .bool bad] 26
  have hb4 := below_box (w2.alloc (.cells #[.int .i64 st, .slice Au utf.length cu, .int .u8 (pr.toNat : Int), .int .u8 (fi.toNat : Int), .slice Aq pp.length cq, .string it, .string tx, .bool bad] 26)) (.cells #[.int .i64 0, .slice none 0 0, .int .u8 0, .int .u8 0, .slice none 0 0, .string ⟨#[]⟩, .string ⟨#[]⟩, .bool false] 26)
  have hx4 := Box.new (w2.alloc (.cells #[.int .i64 st, .slice Au utf.length cu, .int .u8 (pr.toNat : Int), .int .u8 (fi.toNat : Int), .slice Aq pp.length cq, .string it, .string tx, .bool bad] 26)) #[.int .i64 0, .slice none 0 0, .int .u8 0, .int .u8 0, .slice none 0 0, .string ⟨#[]⟩, .string ⟨#[]⟩, .bool false] 26
  have hs4 : ((w2.alloc (.cells #[.int .i64 st, .slice Au utf.length cu, .int .u8 (pr.toNat : Int), .int .u8 (fi.toNat : Int), .slice Aq pp.length cq, .string it, .string tx, .bool bad] 26)).alloc (.cells #[.int .i64 0, .slice none 0 0, .int .u8 0, .int .u8 0, .slice none 0 0, .string ⟨#[]⟩, .string ⟨#[]⟩, .bool false] 26)).heap.size = w2.heap.size + 2 := by rw [World.size_alloc, World.size_alloc]
  rw [World.size_alloc] at hx4
  have HX3 := Lib.hid (hx3.keep hb4)
  have HX4 := Lib.hid hx4
  have HB4 := Lib.hid (up (up HB2.out hb3) hb4)
  have HP4 := Lib.hid ((HP2.out.keep hb3).keep hb4)
  have HV4 := Lib.hid ((HV2.out.keep hb3).keep hb4)
  have HE4 := Lib.hid ((HE2.out.keep hb3).keep hb4)
  have HS4 := Lib.hid hs4
  have HB24 := Lib.hid (up hb3 hb4)
  clear hb3 hb4 hx3 hx4 hs4 HFD HP4 HV4 HE4
  go_wp2_with fail
  generalize (w2.alloc (.cells #[.int .i64 st, .slice Au utf.length cu, .int .u8 (pr.toNat : Int), .int .u8 (fi.toNat : Int), .slice Aq pp.length cq, .string it, .string tx, .bool bad] 26)).alloc (.cells #[.int .i64 0, .slice none 0 0, .int .u8 0, .int .u8 0, .slice none 0 0, .string ⟨#[]⟩, .string ⟨#[]⟩, .bool false] 26) = w4 at HX3 HX4 HB4 HS4 HB24 ⊢
  have HC0 := Lib.hid (show Chn (w2.heap.size + 2) (w2.heap.size + 1) (.slice none 0 0) w4 (runS (begS 0, []) (ds.take 0)).1 (runS (begS 0, []) (ds.take 0)).2 from
    ⟨_, _, [], HX4.out, OwnV.nil _ _, rfl, RBx.nil _ _ _, RLx.nil _ _ _, fun x hx => by cases hx⟩)
  go_loopw [9, 10, 11] (fun v at_ i wr => ∃ a k : Nat, a ≤ N ∧ k ≤ 101 ∧ (k = 101 → a = N) ∧ at_ = .int .i64 a ∧ i = .int .i64 k ∧ Hid (Chn (w2.heap.size + 2) (w2.heap.size + 1) v wr (runS (begS 0, []) (ds.take a)).1 (runS (begS 0, []) (ds.take a)).2 ∧ Below (w2.heap.size + 1) w4 wr)) (fun _ at_ i _ => (N - (intOf at_).toNat) + (101 - (intOf i).toNat))
  case atStart => exact ⟨0, 0, Nat.zero_le _, by omega, (fun h => by cases h), rfl, rfl, HC0.out, Below.refl _ _⟩
  case round =>
    obtain ⟨a, k, ha, hk, hka, rfl, rfl, hid⟩ := hrel
    by_cases hlt : a < N
    · have i1 : (a : Int) < (N : Int) := by omega
      have j1 : (k : Int) ≤ 101 := by omega
      have hka2 : k ≤ 100 := by omega
      have hN4 : (N : Int) ≤ 400 := by omega
      have hrb : Below w.heap.size w wr := HB4.out.trans (hid.out.2.mono (by have := HB4.out.size; have := HS4.out; have := HB2.out.size; omega))
      have HRB := Lib.hid hrb
      clear hrb
      obtain ⟨r, hr⟩ : ∃ r : Nat, (N : Int) - (a : Int) = (r : Int) := ⟨N - a, by omega⟩
      have hrN : a + r = N := by omega
      go_upto_region 12 with fail
      go_cut [48] from 41 to 47 (fun v wx => wx = wr ∧ v = .bool (decide (k < n1 ∧ k < 100)))
      case first =>
        by_cases hk1 : k < n1
        · have k1 : (k : Int) < (n1 : Int) := by omega
          by_cases hk2 : k < 100
          · have k2 : (k : Int) < 100 := by omega
            go_wp2_with fail
            go_meet
            case rel => exact ⟨rfl, by rw [decide_eq_true ⟨hk1, hk2⟩]⟩
          · have k2 : decide ((k : Int) < 100) = false := decide_eq_false (by omega)
            go_wp2_with fail
            go_meet
            case rel => exact ⟨rfl, by rw [decide_eq_false (fun h => hk2 h.2)]⟩
        · have k1 : decide ((k : Int) < (n1 : Int)) = false := decide_eq_false (by omega)
          have k2 : decide (k < n1) = false := decide_eq_false hk1
          go_wp2_with fail
          go_meet
          case rel => exact ⟨rfl, by rw [decide_eq_false (fun h => hk1 h.1)]⟩
      case rest =>
        obtain ⟨rfl, rfl⟩ := hcut
        obtain ⟨q, hq⟩ : ∃ q, decide (k < n1 ∧ k < 100) = q := ⟨_, rfl⟩
        rw [hq]
        go_upto_if 48 with fail
        go_cut [12] from 49 to 56 (fun v wx => wx = wc ∧ ∃ n : Nat, v = .int .i64 n ∧ a + n ≤ N ∧ (k = 100 → a + n = N))
        case first =>
          cases q with
          | true =>
            obtain ⟨hk1, hk2⟩ := of_decide_eq_true hq
            have k1 : (k : Int) < (n1 : Int) := by omega
            obtain ⟨c, hc⟩ := get_some cs k (by rw [L1.out]; exact hk1)
            obtain ⟨ad, hA, _, hcell⟩ := (R1.out.below HRB.out) k _ (cB_at cs k c hc)
            subst hA
            obtain ⟨j, hj, hjk⟩ : ∃ j : Nat, (c.toNat : Int).tmod 20 = (j : Int) ∧ j < 20 := ⟨c.toNat % 20, by rw [Int.tmod_eq_emod_of_nonneg (by omega)]; rfl, Nat.mod_lt _ (by omega)⟩
            clear hc hq
            go_wp2_with fail
            all_goals
              go_meet
              case rel => exact ⟨rfl, _, rfl, by omega, by omega⟩
          | false =>
            have hq2 := of_decide_eq_false hq
            go_wp2_with fail
            go_meet
            case rel => exact ⟨rfl, r, rfl, by omega, by omega⟩
        case rest =>
          obtain ⟨rfl, n, rfl, hn1, hn2⟩ := hcut
          obtain ⟨wb, hwb⟩ : ∃ wb, wb = wc := ⟨_, rfl⟩
          subst hwb
          clear hq
          obtain ⟨⟨u, q, ys, hx8, hv8, hl8, hu8, hq8, he8⟩, hbw⟩ := hid.out
          clear hid
          obtain ⟨ad0, hA0, _, _⟩ := (RD.out.below HRB.out) a _ (cB_at ds a _ (List.getElem?_eq_getElem (by rw [LD.out]; omega)))
          subst hA0
          obtain ⟨R, hR⟩ : ∃ R, R = runS (begS 0, []) (ds.take a) := ⟨_, rfl⟩
          have hmy : mayS R.1 = true := by rw [hR]; exact run_may _ _ (by decide)
          have hrl : R.2.length ≤ 2 * N := by have h1 := run_len (ds.take a) (begS 0, []); have h2 := List.length_take_le a ds; rw [← hR] at h1; have := LD.out; simp only [List.length_nil] at h1; omega
          have hfp := fed_piece ds a n (by omega)
          rw [← hR] at hfp hx8 hl8 hu8 hq8
          obtain ⟨R2, hR2⟩ : ∃ R2, R2 = runS (begS 0, []) (ds.take (a + n)) := ⟨_, rfl⟩
          rw [← hR2] at hfp
          obtain ⟨E, hE⟩ : ∃ E, E = (fedS R.1 ((ds.drop a).take n)).2.1 := ⟨_, rfl⟩
          have hfe : fedS R.1 ((ds.drop a).take n) = (R2.1, E, 0) := by rw [hE, ← hfp.1, ← hfp.2.2]
          have hEV : R.2 ++ E = R2.2 := by rw [hE]; exact hfp.2.1
          have hEl : E.length ≤ 2 * n := by
            have h1 := run_len ((ds.drop a).take n) (R.1, [])
            have h2 : E = (runS (R.1, []) ((ds.drop a).take n)).2 := by rw [hE]; unfold fedS; rw [if_pos hmy, if_neg (by rw [List.length_take]; omega)]
            rw [← h2] at h1
            have h3 := List.length_take_le n (ds.drop a)
            simp only [List.length_nil] at h1
            omega
          have hmy2 : mayS R2.1 = true := by rw [hR2]; exact run_may _ _ (by decide)
          clear hfp hE
          have hgb : ∀ g, u9.ownBlock = some g → g < wb.heap.size := fun g hg => (hv8.blk g hg).2
          have hX8 : ∀ kk, wb.heap.size ≤ kk → (kk ≠ w2.heap.size + 1 ∧ some kk ≠ u9.ownBlock) := fun kk hkk => ⟨by have := hx8.1; omega, fun h => by have := hgb kk h.symm; omega⟩
          have hpx : PX (fun kk => kk ≠ w2.heap.size + 1 ∧ some kk ≠ u9.ownBlock) wb u q R.1 := ⟨⟨hu8.1, hq8.1⟩, fun ad n c e h0 => ⟨(hu8.2 ad n c e h0).1, (hu8.2 ad n c e h0).2.1⟩, fun ad n c e h0 => ⟨(hq8.2.1 ad n c e h0).1, (hq8.2.1 ad n c e h0).2.1⟩, fun A n c j x e hj hx ad m d e' h0 => ⟨(hq8.2.2 A n c j x e hj hx ad m d e' h0).1, (hq8.2.2 A n c j x e hj hx ad m d e' h0).2.1⟩⟩
          obtain ⟨Au8, cu8, rfl⟩ := hu8.1.form
          obtain ⟨Aq8, cq8, rfl⟩ := hq8.1.form
          have hpl : ((ds.drop a).take n).length = n := by rw [List.length_take, List.length_drop, LD.out]; omega
          have hpx0 := Lib.hid hpx
          have hX80 := Lib.hid hX8
          have FD := fun (X : Nat → Prop) (W : World) (hW : Below wb.heap.size wb W) (hp : PX X W (.slice Au8 R.1.utf.length cu8) (.slice Aq8 R.1.ps.length cq8) R.1) (hx : ∀ k, W.heap.size ≤ k → X k) => show Calls Tryd.prog 8 #[.agg (cS R.1 (.slice Au8 R.1.utf.length cu8) (.slice Aq8 R.1.ps.length cq8)), .slice (some (ad0.add a)) n (c0 - a)] W (FedPost X (R2.1, E, 0) W) from by
            rw [← hfe]
            obtain ⟨s0, s1, s2, s3, s4⟩ := may_lim hmy
            exact feed_any _ R.1 Au8 Aq8 _ _ cu8 _ cq8 n (c0 - a) _ W hp hx (HM.out.keep (up HRB.out hW)) (HF.out.keep (up HRB.out hW)) ((bytes_cut (RD.out.below HRB.out) a n).below hW) hpl.symm (by omega) s0 s1 s2 s3 s4
          have hda := (Below.refl wb.heap.size wb).drew
          have FA := Lib.hid (FD _ _ hda (hpx.keep hda) hX8)
          have FB := Lib.hid (fun (o : Obj) =>
            have hdb := (Below.alloc (Below.refl wb.heap.size wb) (Nat.le_refl _) o).drew
            FD _ _ hdb ((hpx.away (Nat.le_refl _)).keep hdb) (fun kk hkk => by
              have hz : (wb.alloc o).drew.heap.size = wb.heap.size + 1 := World.size_alloc ..
              exact ⟨hX8 kk (by omega), by omega⟩))
          clear FD hda
          obtain ⟨⟨st8, utf8, pr8, fi8, pp8, it8, tx8, bad8⟩, L8⟩ := R
          obtain ⟨⟨st9, utf9, pr9, fi9, pp9, it9, tx9, bad9⟩, L9⟩ := R2
          have HX8 := Lib.hid hx8
          have HV8 := Lib.hid hv8
          have HL8 := Lib.hid hl8
          have HU8 := Lib.hid hu8
          have HQ8 := Lib.hid hq8
          have HE8 := Lib.hid he8
          have HBW := Lib.hid hbw
          have HRR := Lib.hid hR
          have HR2 := Lib.hid hR2
          have HRL := Lib.hid hrl
          have HEV := Lib.hid hEV
          have HEL := Lib.hid hEl
          have HMY2 := Lib.hid hmy2
          have HGB := Lib.hid hgb
          have HX9 := Lib.hid hX8
          clear hx8 hv8 hl8 hu8 hq8 he8 hbw hR hR2 hrl hEV hEl hmy hmy2 hgb hX8 hpx hpl hfe
          dsimp only at *
          have g0 : (a : Int) ≤ (a : Int) + (n : Int) := by omega
          have g1 : (a : Int) + (n : Int) ≤ (c0 : Int) := by omega
          have g2 : (a : Int) + (n : Int) ≤ (N : Int) := by omega
          have HK8 := Lib.hid (show ∀ W, Below wb.heap.size wb W → W.cell? ⟨w2.heap.size + 1, 0, none⟩ = some (.int .i64 st8) ∧ W.cell? ⟨w2.heap.size + 1, 1, none⟩ = some (.slice Au8 utf8.length cu8) ∧ W.cell? ⟨w2.heap.size + 1, 2, none⟩ = some (.int .u8 (pr8.toNat : Int)) ∧ W.cell? ⟨w2.heap.size + 1, 3, none⟩ = some (.int .u8 (fi8.toNat : Int)) ∧ W.cell? ⟨w2.heap.size + 1, 4, none⟩ = some (.slice Aq8 pp8.length cq8) ∧ W.cell? ⟨w2.heap.size + 1, 5, none⟩ = some (.string it8) ∧ W.cell? ⟨w2.heap.size + 1, 6, none⟩ = some (.string tx8) ∧ W.cell? ⟨w2.heap.size + 1, 7, none⟩ = some (.bool bad8) ∧ Below wb.heap.size wb W from fun W hW => ⟨(HX8.out.keep hW).cell 0 _ rfl, (HX8.out.keep hW).cell 1 _ rfl, (HX8.out.keep hW).cell 2 _ rfl, (HX8.out.keep hW).cell 3 _ rfl, (HX8.out.keep hW).cell 4 _ rfl, (HX8.out.keep hW).cell 5 _ rfl, (HX8.out.keep hW).cell 6 _ rfl, (HX8.out.keep hW).cell 7 _ rfl, hW⟩)
          have D := (Below.refl wb.heap.size wb).drew
          unfold cS at FA FB
          dsimp only at FA FB
          obtain ⟨hs1, hs2⟩ := slice_mid ad0 N c0 a n (by omega) (by omega)
          have hs1 := hs1 wb
          go_upto_region 14 with fail
          go_cut [13, 14, 15] from 57 to 68 (fun s13 s14 s15 wx => Fed14 (fun kk => kk ≠ w2.heap.size + 1 ∧ some kk ≠ u9.ownBlock) wb ⟨st9, utf9, pr9, fi9, pp9, it9, tx9, bad9⟩ E s13 s14 s15 wx)
          case first =>
            have hwr : IntKind.i64.wrap ((a : Int) + (n : Int)) = (a : Int) + (n : Int) := IntWalk.i64_in _ (by omega)
            go_region_held3 (fun W => W.cell? ⟨w2.heap.size + 1, 0, none⟩ = some (.int .i64 st8) ∧ W.cell? ⟨w2.heap.size + 1, 1, none⟩ = some (.slice Au8 utf8.length cu8) ∧ W.cell? ⟨w2.heap.size + 1, 2, none⟩ = some (.int .u8 (pr8.toNat : Int)) ∧ W.cell? ⟨w2.heap.size + 1, 3, none⟩ = some (.int .u8 (fi8.toNat : Int)) ∧ W.cell? ⟨w2.heap.size + 1, 4, none⟩ = some (.slice Aq8 pp8.length cq8) ∧ W.cell? ⟨w2.heap.size + 1, 5, none⟩ = some (.string it8) ∧ W.cell? ⟨w2.heap.size + 1, 6, none⟩ = some (.string tx8) ∧ W.cell? ⟨w2.heap.size + 1, 7, none⟩ = some (.bool bad8) ∧ Below wb.heap.size wb W)
              (first | with_reducible exact HK8.out _ D | with_reducible exact HK8.out _ ((Below.alloc (Below.refl wb.heap.size wb) (Nat.le_refl _) _).drew) | with_reducible exact HK8.out _ (Below.alloc D D.size _) | with_reducible exact HK8.out _ f3 | with_reducible exact HK8.out _ (Below.alloc f3 f3.size _) | with_reducible exact HK8.out _ (below_set8 _ _ _ _ _ _ _ _ _ (Below.alloc f3 f3.size _) f3.size) | with_reducible exact HK8.out _ (below_set8 _ _ _ _ _ _ _ _ _ f3 (Nat.le_refl _)) | with_reducible assumption)
              (first
                | (go_at_call 8; (with_reducible refine FA.out.mono ?_); rintro e W2 ⟨u, q, v, xs, he0, hp, hv, hx, he, hb⟩; have he1 : e = .returned (.tuple #[.agg #[.int .i64 st9, u, .int .u8 (pr9.toNat : Int), .int .u8 (fi9.toNat : Int), q, .string it9, .string tx9, .bool bad9], v, .int .i64 0]) := he0; clear he0; subst he1; obtain ⟨Au9, cu9, rfl⟩ := hp.1.1.form; obtain ⟨Aq9, cq9, rfl⟩ := hp.1.2.form; obtain ⟨Av9, cv9, rfl, -, -⟩ := hv.form; have HP14 := Lib.hid hp; have HV14 := Lib.hid hv; have HX14 := Lib.hid hx; have HE14 := Lib.hid he; have HB14 := Lib.hid hb; have f3 : Below wb.heap.size wb W2 := (by first | with_reducible exact D.trans (hb.mono D.size) | with_reducible exact ((Below.alloc (Below.refl wb.heap.size wb) (Nat.le_refl _) _).drew).trans (hb.mono ((Below.alloc (Below.refl wb.heap.size wb) (Nat.le_refl _) _).drew).size) | with_reducible exact (Below.alloc D D.size _).trans (hb.mono (Below.alloc D D.size _).size)); clear hp hv hx he hb)
                | (go_at_call 8; (with_reducible refine (FB.out _).mono ?_); rintro e W2 ⟨u, q, v, xs, he0, hp, hv, hx, he, hb⟩; have he1 : e = .returned (.tuple #[.agg #[.int .i64 st9, u, .int .u8 (pr9.toNat : Int), .int .u8 (fi9.toNat : Int), q, .string it9, .string tx9, .bool bad9], v, .int .i64 0]) := he0; clear he0; subst he1; obtain ⟨Au9, cu9, rfl⟩ := hp.1.1.form; obtain ⟨Aq9, cq9, rfl⟩ := hp.1.2.form; obtain ⟨Av9, cv9, rfl, -, -⟩ := hv.form; have HP14 := Lib.hid hp; have HV14 := Lib.hid hv; have HX14 := Lib.hid hx; have HE14 := Lib.hid he; have HB14 := Lib.hid hb; have f3 : Below wb.heap.size wb W2 := (by first | with_reducible exact D.trans (hb.mono D.size) | with_reducible exact ((Below.alloc (Below.refl wb.heap.size wb) (Nat.le_refl _) _).drew).trans (hb.mono ((Below.alloc (Below.refl wb.heap.size wb) (Nat.le_refl _) _).drew).size) | with_reducible exact (Below.alloc D D.size _).trans (hb.mono (Below.alloc D D.size _).size)); have hx3 : Box W2 wb.heap.size [.int .i64 0, .slice none 0 0, .int .u8 0, .int .u8 0, .slice none 0 0, .string ⟨#[]⟩, .string ⟨#[]⟩, .bool false] := (by first | with_reducible exact (Box.new wb _ _).drew.keep hb | with_reducible exact (Box.new wb.drew _ _).keep hb); have z0 := hx3.cell 0 _ rfl; have v0 := hx3.free 0 (by show 0 < 8; decide); have z1 := hx3.cell 1 _ rfl; have v1 := hx3.free 1 (by show 1 < 8; decide); have z2 := hx3.cell 2 _ rfl; have v2 := hx3.free 2 (by show 2 < 8; decide); have z3 := hx3.cell 3 _ rfl; have v3 := hx3.free 3 (by show 3 < 8; decide); have z4 := hx3.cell 4 _ rfl; have v4 := hx3.free 4 (by show 4 < 8; decide); have z5 := hx3.cell 5 _ rfl; have v5 := hx3.free 5 (by show 5 < 8; decide); have z6 := hx3.cell 6 _ rfl; have v6 := hx3.free 6 (by show 6 < 8; decide); have z7 := hx3.cell 7 _ rfl; have v7 := hx3.free 7 (by show 7 < 8; decide); have HX3 := Lib.hid hx3; clear hx3; clear hp hv hx he hb))
            · have hx9 := Box.new W2 (cS ⟨st9, utf9, pr9, fi9, pp9, it9, tx9, bad9⟩ (.slice Au9 utf9.length cu9) (.slice Aq9 pp9.length cq9)) 26
              have hb9 := below_box W2 (.cells (cS ⟨st9, utf9, pr9, fi9, pp9, it9, tx9, bad9⟩ (.slice Au9 utf9.length cu9) (.slice Aq9 pp9.length cq9)) 26)
              go_wp2_with fail
              go_meet
              case rel => exact ⟨_, _, _, _, xs, rfl, rfl, rfl, hx9, HP14.out.keep hb9, (HV14.out.mono (by exact Nat.le_refl _)).keep hb9, HX14.out, HE14.out.keep hb9, up f3 hb9⟩
            · have gs := grown_set8 W2 wb.heap.size (.int .i64 st9) (.slice Au9 utf9.length cu9) (.int .u8 (pr9.toNat : Int)) (.int .u8 (fi9.toNat : Int)) (.slice Aq9 pp9.length cq9) (.string it9) (.string tx9) (.bool bad9)
              have hx9 := box_set8 (.int .i64 st9) (.slice Au9 utf9.length cu9) (.int .u8 (pr9.toNat : Int)) (.int .u8 (fi9.toNat : Int)) (.slice Aq9 pp9.length cq9) (.string it9) (.string tx9) (.bool bad9) HX3.out
              have hd9 := below_set8 wb.heap.size (.int .i64 st9) (.slice Au9 utf9.length cu9) (.int .u8 (pr9.toNat : Int)) (.int .u8 (fi9.toNat : Int)) (.slice Aq9 pp9.length cq9) (.string it9) (.string tx9) (.bool bad9) f3 (Nat.le_refl _)
              have hlt := HX3.out.1
              generalize ((((((((W2.setCell ⟨wb.heap.size, 0, none⟩ (.int .i64 st9)).setCell ⟨wb.heap.size, 1, none⟩ (.slice Au9 utf9.length cu9)).setCell ⟨wb.heap.size, 2, none⟩ (.int .u8 (pr9.toNat : Int))).setCell ⟨wb.heap.size, 3, none⟩ (.int .u8 (fi9.toNat : Int))).setCell ⟨wb.heap.size, 4, none⟩ (.slice Aq9 pp9.length cq9)).setCell ⟨wb.heap.size, 5, none⟩ (.string it9)).setCell ⟨wb.heap.size, 6, none⟩ (.string tx9)).setCell ⟨wb.heap.size, 7, none⟩ (.bool bad9)) = W8 at gs hx9 hd9 ⊢
              have GS := Lib.hid gs
              have HX9' := Lib.hid hx9
              have HD9 := Lib.hid hd9
              clear gs hx9 hd9 z0 z1 z2 z3 z4 z5 z6 z7 v0 v1 v2 v3 v4 v5 v6 v7
              go_wp2_with fail
              go_meet
              case rel =>
                have gs := GS.out
                have hz9 : ∀ o, (wb.alloc o).drew.heap.size = wb.heap.size + 1 := fun o => World.size_alloc ..
                refine ⟨_, _, _, _, xs, rfl, rfl, rfl, HX9'.out, HP14.out.set gs (Nat.le_of_lt hlt), (OwnV.at HV14.out (fun k _ h1 h2 => gs.block k h2 (by have h3 := Nat.le_trans (Nat.le_of_eq (hz9 _).symm) h1; intro e; injection e with e; omega))).mono (Nat.le_trans (Nat.le_succ _) (Nat.le_of_eq (hz9 _).symm)), HX14.out, HE14.out.set gs (Nat.le_of_lt hlt), HD9.out⟩
          case rest =>
            obtain ⟨g, u, q, v, xs, rfl, rfl, rfl, hx9, hp9, hv9, hm9, he9, hb9⟩ := hcut
            obtain ⟨Au9, cu9, rfl⟩ := hp9.1.1.form
            obtain ⟨Aq9, cq9, rfl⟩ := hp9.1.2.form
            obtain ⟨Av9, cv9, rfl, -, -⟩ := hv9.form
            obtain ⟨s0, s1, s2, s3, s4⟩ := may_lim HMY2.out
            have hck := check6_any ⟨st9, utf9, pr9, fi9, pp9, it9, tx9, bad9⟩ Au9 Aq9 utf9.length cu9 pp9.length cq9 wc hp9.1 (HM.out.keep (up HRB.out hb9)) (HF.out.keep (up HRB.out hb9)) s0 s1 s2 s3 s4
            rw [HMY2.out, if_pos rfl] at hck
            unfold cS at hck hx9
            dsimp only at hck hx9
            have HCK := Lib.hid hck
            have HX9 := Lib.hid hx9
            have HP9 := Lib.hid hp9
            have HV9 := Lib.hid hv9
            have HM9 := Lib.hid hm9
            have HE9 := Lib.hid he9
            have HB9 := Lib.hid hb9
            have x0 := hx9.cell 0 _ rfl
            have x1 := hx9.cell 1 _ rfl
            have x2 := hx9.cell 2 _ rfl
            have x3 := hx9.cell 3 _ rfl
            have x4 := hx9.cell 4 _ rfl
            have x5 := hx9.cell 5 _ rfl
            have x6 := hx9.cell 6 _ rfl
            have x7 := hx9.cell 7 _ rfl
            clear hck hx9 hp9 hv9 hm9 he9 hb9 s0 s1 s2 s3 s4
            go_upto_region 17 with (go_at_call 9; refine HCK.out.mono ?_; rintro e w10 ⟨rfl, hb10⟩; have HB10 := Lib.hid hb10; clear hb10)
            clear x0 x1 x2 x3 x4 x5 x6 x7
            have hx9 := HX9.out.keep HB10.out
            have x0 := hx9.cell 0 _ rfl
            have x1 := hx9.cell 1 _ rfl
            have x2 := hx9.cell 2 _ rfl
            have x3 := hx9.cell 3 _ rfl
            have x4 := hx9.cell 4 _ rfl
            have x5 := hx9.cell 5 _ rfl
            have x6 := hx9.cell 6 _ rfl
            have x7 := hx9.cell 7 _ rfl
            have hxb := (HX8.out.keep HB9.out).keep HB10.out
            have y0 := hxb.cell 0 _ rfl
            have y1 := hxb.cell 1 _ rfl
            have y2 := hxb.cell 2 _ rfl
            have y3 := hxb.cell 3 _ rfl
            have y4 := hxb.cell 4 _ rfl
            have y5 := hxb.cell 5 _ rfl
            have y6 := hxb.cell 6 _ rfl
            have y7 := hxb.cell 7 _ rfl
            have z0 := hxb.free 0 (by show 0 < 8; decide)
            have z1 := hxb.free 1 (by show 1 < 8; decide)
            have z2 := hxb.free 2 (by show 2 < 8; decide)
            have z3 := hxb.free 3 (by show 3 < 8; decide)
            have z4 := hxb.free 4 (by show 4 < 8; decide)
            have z5 := hxb.free 5 (by show 5 < 8; decide)
            have z6 := hxb.free 6 (by show 6 < 8; decide)
            have z7 := hxb.free 7 (by show 7 < 8; decide)
            have hlt := hxb.1
            have gs := grown_set8 w10 (w2.heap.size + 1) (.int .i64 st9) (.slice Au9 utf9.length cu9) (.int .u8 (pr9.toNat : Int)) (.int .u8 (fi9.toNat : Int)) (.slice Aq9 pp9.length cq9) (.string it9) (.string tx9) (.bool bad9)
            have hx11 := box_set8 (.int .i64 st9) (.slice Au9 utf9.length cu9) (.int .u8 (pr9.toNat : Int)) (.int .u8 (fi9.toNat : Int)) (.slice Aq9 pp9.length cq9) (.string it9) (.string tx9) (.bool bad9) hxb
            have GS := Lib.hid gs
            have HX11 := Lib.hid hx11
            clear hx9 hxb gs hx11
            go_upto_region 18 with fail
            generalize ((((((((w10.setCell ⟨w2.heap.size + 1, 0, none⟩ (.int .i64 st9)).setCell ⟨w2.heap.size + 1, 1, none⟩ (.slice Au9 utf9.length cu9)).setCell ⟨w2.heap.size + 1, 2, none⟩ (.int .u8 (pr9.toNat : Int))).setCell ⟨w2.heap.size + 1, 3, none⟩ (.int .u8 (fi9.toNat : Int))).setCell ⟨w2.heap.size + 1, 4, none⟩ (.slice Aq9 pp9.length cq9)).setCell ⟨w2.heap.size + 1, 5, none⟩ (.string it9)).setCell ⟨w2.heap.size + 1, 6, none⟩ (.string tx9)).setCell ⟨w2.heap.size + 1, 7, none⟩ (.bool bad9)) = W8 at GS HX11 ⊢
            clear x0 x1 x2 x3 x4 x5 x6 x7 y0 y1 y2 y3 y4 y5 y6 y7 z0 z1 z2 z3 z4 z5 z6 z7
            have hv8 := (HV8.out.keep HB9.out).keep HB10.out
            have hv8b := OwnV.at (w' := W8) hv8 (fun kk _ h1 h2 => GS.out.block kk h2 (by intro e; injection e with e; omega))
            have hv9b := OwnV.at (w' := W8) (HV9.out.keep HB10.out) (fun kk _ h1 h2 => GS.out.block kk h2 (by intro e; injection e with e; have := HX8.out.1; omega))
            have hrd9 := hv9b.rd
            have hyl : ys.length ≤ 2 * N := by have := HRL.out; rw [← HL8.out, List.length_map] at this; exact this
            have hxl : xs.length ≤ 2 * n := by have := HEL.out; rw [← HM9.out, List.length_map] at this; exact this
            have hW8 : w2.heap.size + 2 ≤ W8.heap.size := by have := GS.out.size; omega
            have HV8B := Lib.hid hv8b
            have HR9B := Lib.hid hrd9
            clear hv8 hv8b hv9b hrd9
            go_upto_region 19 with (at_builtin; refine wpList_appV1 W8 rfl (.tmp 77) (.tmp 78) rfl (w2.heap.size + 2) u9 ys rfl HV8B.out Av9 xs.length cv9 xs rfl rfl HR9B.out (by omega) hW8 ?_; intro v' w11 hv11 hn11 hg11; have HV11 := Lib.hid hv11; have HN11 := Lib.hid hn11; have HG11 := Lib.hid hg11; clear hv11 hn11 hg11)
            have hl11 := hlt
            go_wp2_with fail
            go_roundw
            case rel =>
              refine ⟨a + n, k + 1, hn1, by omega, fun h => hn2 (by omega), by go_num, by go_num, ?_⟩
              have hb10 : Below wb.heap.size wb w10 := up HB9.out HB10.out
              have hwb : w2.heap.size + 1 ≤ wb.heap.size := Nat.le_of_lt HX8.out.1
              have hgw : ∀ kk, u9.ownBlock = some kk → w2.heap.size + 1 ≤ kk := fun kk h => by have := (HV8.out.blk kk h).1; omega
              have f2 : Frm (w2.heap.size + 1) u9.ownBlock u9.ownBlock w10 W8 := Frm.of_set GS.out (Nat.le_of_lt hl11)
              have f3' : Frm (w2.heap.size + 1) u9.ownBlock v'.ownBlock W8 w11 := Frm.of_grow HG11.out (by omega) hgw (HN11.out.imp id (fun h => ⟨_, h, Nat.le_refl _⟩))
              have fa := ((Frm.of_below (g := u9.ownBlock) hb10 hwb).trans f2).trans f3'
              have fb := ((Frm.of_below (b := w2.heap.size + 1) (g := u9.ownBlock) HB10.out (Nat.le_trans hwb HB9.out.size)).trans f2).trans f3'
              have hr2 := HR2.out
              have e1 : (runS (begS 0, []) (ds.take (a + n))).1 = ⟨st9, utf9, pr9, fi9, pp9, it9, tx9, bad9⟩ := by rw [← hr2]
              have e2 : (runS (begS 0, []) (ds.take (a + n))).2 = L9 := by rw [← hr2]
              rw [e1, e2]
              obtain ⟨o1, o2⟩ := HP9.out.offs
              refine ⟨⟨_, _, ys ++ xs, HX11.out.grown HG11.out ?_, HV11.out, ?_, o1.frm fb, o2.frm fb, ?_⟩, HBW.out.trans fa.below⟩
              · intro h
                have := (HV8.out.blk _ h.symm).1
                omega
              · rw [List.map_append, HL8.out, HM9.out, HEV.out]
              · intro x hx
                rcases List.mem_append.1 hx with hx | hx
                · exact (HE8.out x hx).frm fa
                · exact (HE9.out.offs x hx).frm fb
            case measure => simp [intOf]; omega
    · have haN : a = N := by omega
      subst haN
      have htk : ds.take a = ds := List.take_of_length_le (by rw [LD.out]; omega)
      rw [htk, ← HPE.out] at hid
      obtain ⟨⟨u, q, ys, hx8, hv8, hl8, hu8, hq8, he8⟩, hbw⟩ := hid.out
      clear hid htk
      dsimp only at hx8 hl8 hu8 hq8
      obtain ⟨Au8, cu8, rfl⟩ := hu8.1.form
      obtain ⟨Aq8, cq8, rfl⟩ := hq8.1.form
      have hb2r : Below w2.heap.size w2 wr := HB24.out.trans (hbw.mono (Nat.le_succ _))
      have hbr : Below w.heap.size w wr := up HB2.out hb2r
      have hp2 := HP2.out.1.keep hb2r
      have hxe := HX3.out.below hbw (Nat.lt_succ_self _)
      have HXE := Lib.hid hxe
      have HXP := Lib.hid hx8
      have hrv1 : RV wr u9 L := by have h := hv8.rv (fun x hx => (he8 x hx).1); rw [hl8] at h; exact h
      have hrv2 : RV wr (.slice Av xs.length cv) L := by have h := (HV2.out.rv (fun x hx => (HE2.out x hx).1)); rw [HX2.out] at h; exact h.keep hb2r
      have hkl : Kv L := by have h := run_kv ds (begS 0, []) (by decide) (fun e he => by cases he); rw [← HPE.out] at h; exact h
      obtain ⟨s0, s1, s2, s3, s4⟩ := may_lim HPm.out
      have HCK := Lib.hid (fun (W : World) (hW : Below wr.heap.size wr W) => show Calls Tryd.prog 9 #[.agg #[.int .i64 st, .slice Au utf.length cu, .int .u8 (pr.toNat : Int), .int .u8 (fi.toNat : Int), .slice Aq pp.length cq, .string it, .string tx, .bool bad]] W (fun e w' => e = .returned (.int .i64 0) ∧ Below W.heap.size W w') from by
        have h := check6_any ⟨st, utf, pr, fi, pp, it, tx, bad⟩ Au Aq utf.length cu pp.length cq W (hp2.keep hW) (HM.out.keep (up hbr hW)) (HF.out.keep (up hbr hW)) s0 s1 s2 s3 s4
        rw [HPm.out, if_pos rfl] at h
        exact h)
      have HSM := Lib.hid (fun (W : World) (hW : Below wr.heap.size wr W) => show Calls Tryd.prog 10 #[.agg #[.int .i64 st, .slice Au8 utf.length cu8, .int .u8 (pr.toNat : Int), .int .u8 (fi.toNat : Int), .slice Aq8 pp.length cq8, .string it, .string tx, .bool bad], .agg #[.int .i64 st, .slice Au utf.length cu, .int .u8 (pr.toNat : Int), .int .u8 (fi.toNat : Int), .slice Aq pp.length cq, .string it, .string tx, .bool bad]] W (fun e w' => e = .returned (.bool true) ∧ Below W.heap.size W w') from by
        have h := rsame6_any ⟨st, utf, pr, fi, pp, it, tx, bad⟩ ⟨st, utf, pr, fi, pp, it, tx, bad⟩ Au8 Au Aq8 Aq utf.length utf.length cu8 cu pp.length pp.length cq8 cq W (RS.keep ⟨hu8.1, hq8.1⟩ hW) (hp2.keep hW) s2 s2
        rw [(eqS_iff _ _).2 rfl] at h
        exact h)
      have HEV := Lib.hid (fun (W : World) (hW : Below wr.heap.size wr W) => show Calls Tryd.prog 11 #[u9, .slice Av xs.length cv] W (fun e w' => e = .returned (.bool true) ∧ Below W.heap.size W w') from by
        have h := revents_any u9 (.slice Av xs.length cv) L L W (hrv1.keep hW) (hrv2.keep hW) hkl hkl
        rw [(evB_iff _ _).2 rfl] at h
        exact h)
      have hB := Below.refl wr.heap.size wr
      have HBR := Lib.hid hbr
      have hxe := HXE.out.keep hB
      have hxp := HXP.out.keep hB
      have x0 := hxe.cell 0 _ rfl
      have x1 := hxe.cell 1 _ rfl
      have x2 := hxe.cell 2 _ rfl
      have x3 := hxe.cell 3 _ rfl
      have x4 := hxe.cell 4 _ rfl
      have x5 := hxe.cell 5 _ rfl
      have x6 := hxe.cell 6 _ rfl
      have x7 := hxe.cell 7 _ rfl
      have y0 := hxp.cell 0 _ rfl
      have y1 := hxp.cell 1 _ rfl
      have y2 := hxp.cell 2 _ rfl
      have y3 := hxp.cell 3 _ rfl
      have y4 := hxp.cell 4 _ rfl
      have y5 := hxp.cell 5 _ rfl
      have y6 := hxp.cell 6 _ rfl
      have y7 := hxp.cell 7 _ rfl
      clear hxe hxp
      clear hx8 hv8 hl8 hu8 hq8 he8 hbw hb2r hbr hp2 hxe hrv1 hrv2 hkl s0 s1 s2 s3 s4
      go_wp2_with (first
        | (go_at_call 9; refine (HCK.out _ hB).mono ?_; rintro e w' ⟨rfl, hb'⟩; have hB := up hB hb'; clear hb' x0 x1 x2 x3 x4 x5 x6 x7 y0 y1 y2 y3 y4 y5 y6 y7; have hxe := HXE.out.keep hB; have hxp := HXP.out.keep hB; have x0 := hxe.cell 0 _ rfl; have x1 := hxe.cell 1 _ rfl; have x2 := hxe.cell 2 _ rfl; have x3 := hxe.cell 3 _ rfl; have x4 := hxe.cell 4 _ rfl; have x5 := hxe.cell 5 _ rfl; have x6 := hxe.cell 6 _ rfl; have x7 := hxe.cell 7 _ rfl; have y0 := hxp.cell 0 _ rfl; have y1 := hxp.cell 1 _ rfl; have y2 := hxp.cell 2 _ rfl; have y3 := hxp.cell 3 _ rfl; have y4 := hxp.cell 4 _ rfl; have y5 := hxp.cell 5 _ rfl; have y6 := hxp.cell 6 _ rfl; have y7 := hxp.cell 7 _ rfl; clear hxe hxp)
        | (go_at_call 10; refine (HSM.out _ hB).mono ?_; rintro e w' ⟨rfl, hb'⟩; have hB := up hB hb'; clear hb' x0 x1 x2 x3 x4 x5 x6 x7 y0 y1 y2 y3 y4 y5 y6 y7; have hxe := HXE.out.keep hB; have hxp := HXP.out.keep hB; have x0 := hxe.cell 0 _ rfl; have x1 := hxe.cell 1 _ rfl; have x2 := hxe.cell 2 _ rfl; have x3 := hxe.cell 3 _ rfl; have x4 := hxe.cell 4 _ rfl; have x5 := hxe.cell 5 _ rfl; have x6 := hxe.cell 6 _ rfl; have x7 := hxe.cell 7 _ rfl; have y0 := hxp.cell 0 _ rfl; have y1 := hxp.cell 1 _ rfl; have y2 := hxp.cell 2 _ rfl; have y3 := hxp.cell 3 _ rfl; have y4 := hxp.cell 4 _ rfl; have y5 := hxp.cell 5 _ rfl; have y6 := hxp.cell 6 _ rfl; have y7 := hxp.cell 7 _ rfl; clear hxe hxp)
        | (go_at_call 11; refine (HEV.out _ hB).mono ?_; rintro e w' ⟨rfl, hb'⟩; have hB := up hB hb'; clear hb'))
      go_ret
      exact ⟨rfl, up HBR.out hB⟩
end Go.Proofs.YtefkbdmgplfgoaaDoor.Sta
