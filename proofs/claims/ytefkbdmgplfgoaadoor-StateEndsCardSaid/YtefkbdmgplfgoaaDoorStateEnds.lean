/-
  CAN, ESC c and ESC backslash lead to the initial state: plain facts for StateEnds. The walk of StateEnds.
-/
import Derived.Test.YtefkbdmgplfgoaaDoorStaMath
import Derived.Test.YtefkbdmgplfgoaaDoorStaAm
import Derived.Lib.AppendStr
import Derived.Deep.CutBlock
import Derived.Deep.RegionHeld3
import Derived.Deep.RegionWith
import Derived.Laws.OwnMore
namespace Go.Proofs.YtefkbdmgplfgoaaDoor.Sta
open Utf Par

theorem alone_low (b : UInt8) (h : b.toNat < 128) : aloneL b = ([], [(b.toNat : Int)]) := by
  have h1 : fl b = 1 := by unfold fl; rw [if_neg (by omega), if_neg (by omega), if_neg (by omega)]
  have h2 : low [b] = b.toNat := by show val (b.toNat - mk (fl b)) [] * 64 ^ (fl b - (0 + 1)) = _; rw [h1]; simp [val, mk]
  have h3 : begB [b] = true := by
    show (!([] : List UInt8).any notc && (fitsB (low [b]) (fl b) || _)) = true
    rw [h1, h2]
    have h4 : fitsB (b.toNat : Int) ((1 : Nat) : Int) = true := by
      unfold fitsB chk cl len4
      rw [if_neg (by omega), if_neg (by omega), if_neg (by omega)]
      simp
      omega
    rw [h4]; rfl
  unfold aloneL
  rw [if_pos h3]
  show (if 0 + 1 < fl b then ([b], []) else ([], [(low [b] : Int)])) = _
  rw [h1, if_neg (by omega), h2]
theorem step_low (u : List UInt8) (b : UInt8) (h : b.toNat < 128) : stepL u b = ([], (if preB u then [65533] else []) ++ [(b.toNat : Int)]) := by
  unfold stepL
  cases hp : preB u with
  | false => rw [if_neg (by decide), if_neg (by decide), alone_low b h]; rfl
  | true =>
    rw [if_pos rfl, if_pos rfl]
    have hb : begB (u ++ [b]) = false := by
      cases u with
      | nil => cases hp
      | cons c r =>
        show (!((r ++ [b]).any notc) && _) = false
        have : (r ++ [b]).any notc = true := by
          rw [List.any_append]
          have : notc b = true := by unfold notc; simp; omega
          simp [this]
        rw [this]; rfl
    rw [if_neg (by rw [hb]; decide), alone_low b h]
    rfl
/-- what is printed ahead of a control where bytes are pending -/
def preE (u : List UInt8) : List EV := if preB u then [prE 65533] else []
theorem preE_len (u : List UInt8) : (preE u).length ≤ 1 := by unfold preE; split <;> simp
theorem prt_low (u : List UInt8) (b : UInt8) (h : b.toNat < 32) : prtS u b = ((grdS b).1, preE u ++ (grdS b).2) := by
  unfold prtS preE
  rw [step_low u b (by omega)]
  have e : (UInt8.ofNat ((b.toNat : Int).toNat)) = b := by simp
  cases preB u with
  | false =>
    rw [if_neg (by decide), if_neg (by decide)]
    show codS (begS 0, []) (b.toNat : Int) = _
    unfold codS
    rw [if_pos (by omega), e]
  | true =>
    rw [if_pos rfl, if_pos rfl]
    show codS (codS (begS 0, []) 65533) (b.toNat : Int) = _
    have h1 : codS (begS 0, []) 65533 = (begS 0, [prE 65533]) := rfl
    rw [h1]
    unfold codS
    rw [if_pos (by omega), e]
theorem one_can (p : PS) : ∃ ev, oneS p 24 = (begS 0, ev) ∧ ev.length ≤ 2 := by
  unfold oneS
  by_cases h : p.st = 0 ∧ (p.utf ≠ [] ∨ 128 ≤ (24 : UInt8).toNat)
  · rw [if_pos h, prt_low _ _ (by decide)]
    refine ⟨_, rfl, ?_⟩
    have := preE_len p.utf
    show (preE p.utf ++ []).length ≤ 2
    simp; omega
  · rw [if_neg h, if_pos (by decide)]
    exact ⟨[], rfl, by simp⟩
/-- behind ESC: in Escape, or a string that may end -/
theorem one_esc (p : PS) : ∃ q ev, oneS p 27 = (q, ev) ∧ ev.length ≤ 1 ∧ (q = begS 1 ∨ q.st = 7 ∨ q.st = 12 ∨ q.st = 14) := by
  unfold oneS
  by_cases h : p.st = 0 ∧ (p.utf ≠ [] ∨ 128 ≤ (27 : UInt8).toNat)
  · rw [if_pos h, prt_low _ _ (by decide)]
    refine ⟨_, _, rfl, ?_, .inl rfl⟩
    have := preE_len p.utf
    show (preE p.utf ++ []).length ≤ 1
    simp; omega
  · rw [if_neg h, if_neg (by decide), if_pos (by decide)]
    split
    · rename_i hs
      refine ⟨_, _, rfl, by simp, .inr ?_⟩
      show p.st + 1 = 7 ∨ p.st + 1 = 12 ∨ p.st + 1 = 14
      omega
    · exact ⟨_, _, rfl, by simp, .inl rfl⟩
theorem one_c (q : PS) (h : q = begS 1 ∨ q.st = 7 ∨ q.st = 12 ∨ q.st = 14) : oneS q 99 = (begS 0, [esE nos 99]) := by
  rcases h with rfl | h
  · rfl
  · unfold oneS
    rw [if_neg (by omega), if_neg (by decide), if_neg (by decide), if_pos (by omega)]
    rfl
theorem one_bs (q : PS) (h : q = begS 1 ∨ q.st = 7 ∨ q.st = 12 ∨ q.st = 14) : ∃ ev, oneS q 92 = (begS 0, ev) ∧ ev.length ≤ 1 := by
  rcases h with rfl | h
  · exact ⟨_, rfl, by simp⟩
  · unfold oneS
    rw [if_neg (by omega), if_neg (by decide), if_neg (by decide), if_pos (by omega)]
    unfold endS
    have ht : ∀ e, ∃ ev, tolS q e = (begS 0, ev) ∧ ev.length ≤ 1 := fun e => by
      unfold tolS
      split
      · exact ⟨[], rfl, by simp⟩
      · exact ⟨[e], rfl, by simp⟩
    rw [if_neg (by decide)]
    split
    · exact ht _
    · split
      · exact ht _
      · exact ⟨[], rfl, by simp⟩
def endN (k : Nat) : List UInt8 := if k = 0 then [24] else if k = 1 then [27, 99] else [27, 92]
theorem run_end (p : PS) (k : Nat) : ∃ ev, runS (p, []) (endN k) = (begS 0, ev) ∧ ev.length ≤ 2 ∧ (k = 1 → ∃ f, ev = f ++ [esE nos 99]) := by
  unfold endN
  by_cases h0 : k = 0
  · rw [if_pos h0]
    obtain ⟨ev, h1, h2⟩ := one_can p
    refine ⟨ev, ?_, h2, fun h => by omega⟩
    show ((oneS p 24).1, [] ++ (oneS p 24).2) = _
    rw [h1]; rfl
  · rw [if_neg h0]
    obtain ⟨q, e1, h1, h2, h3⟩ := one_esc p
    by_cases h4 : k = 1
    · rw [if_pos h4]
      refine ⟨e1 ++ [esE nos 99], ?_, by simp; omega, fun _ => ⟨e1, rfl⟩⟩
      show ((oneS (oneS p 27).1 99).1, ([] ++ (oneS p 27).2) ++ (oneS (oneS p 27).1 99).2) = _
      rw [h1]
      show ((oneS q 99).1, ([] ++ e1) ++ (oneS q 99).2) = _
      rw [one_c q h3]; rfl
    · rw [if_neg h4]
      obtain ⟨e2, h5, h6⟩ := one_bs q h3
      refine ⟨e1 ++ e2, ?_, by simp; omega, fun h => absurd h h4⟩
      show ((oneS (oneS p 27).1 92).1, ([] ++ (oneS p 27).2) ++ (oneS (oneS p 27).1 92).2) = _
      rw [h1]
      show ((oneS q 92).1, ([] ++ e1) ++ (oneS q 92).2) = _
      rw [h5]; rfl
/-- the three of them, whole -/
theorem run_ends (a b : List UInt8) (k : Nat) : runS (begS 0, []) (a ++ endN k ++ b) = ((runS (begS 0, []) b).1, (runS (begS 0, []) a).2 ++ (runS ((runS (begS 0, []) a).1, []) (endN k)).2 ++ (runS (begS 0, []) b).2) := by
  rw [runS_app, runS_app]
  obtain ⟨ev, h, _⟩ := run_end (runS (begS 0, []) a).1 k
  have h1 := runS_ev (runS (begS 0, []) a).1 (runS (begS 0, []) a).2 (endN k)
  rw [h] at h1
  rw [show runS (runS (begS 0, []) a) (endN k) = (begS 0, (runS (begS 0, []) a).2 ++ ev) from h1, h, runS_ev]
end Go.Proofs.YtefkbdmgplfgoaaDoor.Sta
namespace Go.Proofs.YtefkbdmgplfgoaaDoor.Sta
open Go.RowKit Utf Par

/-- what lies behind a call of Feed whose results nobody changes -/
def FPo (P : PS) (L : List EV) (B : Nat) (u q v : Value) (xs : List EQ) (w : World) : Prop := RS w u q P ∧ OwnV w B v xs ∧ xs.map (·.e) = L ∧ QsE w xs
theorem FPo.keep {P : PS} {L : List EV} {B : Nat} {u q v : Value} {xs : List EQ} {w w' : World} (h : FPo P L B u q v xs w) (hb : Below w.heap.size w w') : FPo P L B u q v xs w' := ⟨h.1.keep hb, h.2.1.keep hb, h.2.2.1, h.2.2.2.keep hb⟩
def FP (P : PS) (L : List EV) (W : World) (e : Ending) (w' : World) : Prop :=
  ∃ Au cu Aq cq Av cv xs, e = .returned (.tuple #[.agg #[.int .i64 P.st, .slice Au P.utf.length cu, .int .u8 (P.pr.toNat : Int), .int .u8 (P.fi.toNat : Int), .slice Aq P.ps.length cq, .string P.it, .string P.tx, .bool P.bad], .slice Av xs.length cv, .int .i64 0]) ∧
    FPo P L W.heap.size (.slice Au P.utf.length cu) (.slice Aq P.ps.length cq) (.slice Av xs.length cv) xs w' ∧ Below W.heap.size W w'
theorem fp_of {P : PS} {L : List EV} {W : World} {e : Ending} {w' : World} (h : FedPost (fun _ => True) (P, L, 0) W e w') : FP P L W e w' := by
  obtain ⟨u, q, v, xs, rfl, hp, hv, hm, he, hb⟩ := h
  obtain ⟨Au, cu, rfl⟩ := hp.1.1.form
  obtain ⟨Aq, cq, rfl⟩ := hp.1.2.form
  obtain ⟨Av, cv, rfl, -, -⟩ := hv.form
  exact ⟨Au, cu, Aq, cq, Av, cv, xs, rfl, ⟨hp.1, hv, hm, fun x hx => (he x hx).1⟩, hb⟩
theorem feed0_any (A : Option Addr) (n c : Nat) (bs : List UInt8) (W : World) (hm : Mk W) (hf : Tf W) (hr : Rd W A (cB bs)) (hn : n = bs.length) (h : n ≤ 4096) :
    Calls Tryd.prog 8 #[.agg #[.int .i64 0, .slice none 0 0, .int .u8 0, .int .u8 0, .slice none 0 0, .string ⟨#[]⟩, .string ⟨#[]⟩, .bool false], .slice A n c] W (FP (runS (begS 0, []) bs).1 (runS (begS 0, []) bs).2 W) := by
  refine (feed_any (fun _ => True) (begS 0) none none A 0 0 0 0 n c bs W (PX.nil _ _ _ rfl rfl) (fun _ _ => trivial) hm hf hr hn (by omega) (by show (-100000 : Int) ≤ 0 ∧ (0 : Int) ≤ 100000; omega) (by show (0 : Nat) ≤ _; omega) kq_nil (by show (0 : Nat) ≤ _; omega) (by show (0 : Nat) ≤ _; omega)).mono fun e w' h' => fp_of ?_
  have e0 : fedS (begS 0) bs = ((runS (begS 0, []) bs).1, (runS (begS 0, []) bs).2, 0) := by unfold fedS; rw [if_pos (by decide), if_neg (by omega)]
  rw [e0] at h'
  exact h'
theorem lim_of {p : PS} (h : mayS p = true) : (-100000 ≤ p.st ∧ p.st ≤ 100000) ∧ p.utf.length ≤ 1000000 ∧ Kq p.ps ∧ p.it.size ≤ 1000000 ∧ p.tx.size ≤ 1000000 := by
  have h0 := may_st h
  refine ⟨by omega, ?_, may_kq h, ?_, ?_⟩
  all_goals
    cases hb : p.bad with
    | true =>
      obtain ⟨e, _⟩ := may_bad h hb
      rw [e]
      show 0 ≤ _
      omega
    | false =>
      have g := (may_good hb).1 h
      first
        | (rcases g.utf with e | ⟨e, _⟩
           · rw [e]; show 0 ≤ _; omega
           · have := (preB_len _ e).1; omega)
        | (have := g.itm; unfold mostS at this; split at this <;> omega)
        | (have := g.txl; omega)
theorem feedp_any (P : PS) (Au Aq A : Option Addr) (cu cq n c : Nat) (bs : List UInt8) (W : World) (hmy : mayS P = true) (hp : RS W (.slice Au P.utf.length cu) (.slice Aq P.ps.length cq) P) (hm : Mk W) (hf : Tf W) (hr : Rd W A (cB bs)) (hn : n = bs.length) (h : n ≤ 4096) :
    Calls Tryd.prog 8 #[.agg #[.int .i64 P.st, .slice Au P.utf.length cu, .int .u8 (P.pr.toNat : Int), .int .u8 (P.fi.toNat : Int), .slice Aq P.ps.length cq, .string P.it, .string P.tx, .bool P.bad], .slice A n c] W (FP (runS (P, []) bs).1 (runS (P, []) bs).2 W) := by
  obtain ⟨s0, s1, s2, s3, s4⟩ := lim_of hmy
  refine (feed_any (fun _ => True) P Au Aq A _ cu _ cq n c bs W ⟨hp, fun _ _ _ _ _ => trivial, fun _ _ _ _ _ => trivial, fun _ _ _ _ _ _ _ _ _ _ _ _ _ => trivial⟩ (fun _ _ => trivial) hm hf hr hn (by omega) s0 s1 s2 s3 s4).mono fun e w' h' => fp_of ?_
  have e0 : fedS P bs = ((runS (P, []) bs).1, (runS (P, []) bs).2, 0) := by unfold fedS; rw [if_pos hmy, if_neg (by omega)]
  rw [e0] at h'
  exact h'
/-- the index of the array of strings -/
theorem ixEnd (k : Nat) (hk : k < 3) (W : World) : (Instr.index 35 (.agg #[.string ⟨#[24]⟩, .string ⟨#[27, 99]⟩, .string ⟨#[27, 92]⟩]) (.int .i64 (k : Int))).run Tryd.prog W = .ok (.string ⟨(endN k).toArray⟩) W := by
  rcases (show k = 0 ∨ k = 1 ∨ k = 2 by omega) with rfl | rfl | rfl <;> kernel_rfl
theorem infoBy : (Tryd.prog.info? 5).map (fun i => (i.zero, i.size, i.bytes)) = some (some (.int .u8 0), 1, 1) := by kernel_rfl
/-- an append of a string onto a row of bytes of the call's own -/
theorem wpList_appS (w : World) {ops : Array Oper} {rest : List Oper} {o : Oper} {a : Act} {Q : Exit → Act → World → Prop} (hgd : o.guard = none) (s x : Operand)
    (ho : o.op = .call { callee := .builtin .append, args := #[s, x], argTypes := #[22, 9] })
    (base : Nat) (v : Value) (n : Nat) (xs : List Value) (hs : a.eval s = v) (hown : w.ownsRow base 5 1 v n xs) (S : ByteArray) (hx : a.eval x = .string S)
    (hsmall : n + S.size ≤ 100000) (hbase : base ≤ w.heap.size) (h : ∀ v' w', w'.ownsRow base 5 1 v' (n + S.size) (xs ++ cB S.data.toList) → w.grownBy w' v.ownBlock → wpList Tryd.prog ops Q rest (a.put o.dst v') w') : wpList Tryd.prog ops Q (o :: rest) a w :=
  wpList_plain hgd fun K hK => by
    obtain ⟨i0, hi0, hz0, hz1, hz2⟩ := info_parts infoBy
    obtain ⟨v', w', hrun, h2, h3, _⟩ := Lib.run_append_own_string (P := Tryd.prog) w base 22 9 o.type 5 i0 Tryd.underlying22 Tryd.underlying9 hi0 hz0 hz1 hz2 v n xs hown S (by unfold maxLen; omega) (by omega) hbase
    unfold Oper.wp execOp
    simp only [ho, resolve, invoke, builtin, Sem.run_bind, Sem.run_pure, Result.andThen_ok, List.map_toArray, List.map_cons, List.map_nil, hs, hx, hrun]
    exact hK _ _ (h v' w' h2 h3)
theorem min_200 (n : Nat) : (if (200 : Int) < (n : Int) then (200 : Int) else (n : Int)) = ((min n 200 : Nat) : Int) := by split <;> omega
attribute [local go_sem] min_200

set_option maxRecDepth 100000 in
set_option maxHeartbeats 8000000 in
theorem ends_any (A0 A1 : Option Addr) (n0 c0 n1 c1 : Nat) (xa xb : List UInt8) (w : World) (r0 : Rd w A0 (cB xa)) (l0 : xa.length = n0) (b0 : n0 ≤ c0 ∧ c0 ≤ maxLen) (r1 : Rd w A1 (cB xb)) (l1 : xb.length = n1) (b1 : n1 ≤ c1 ∧ c1 ≤ maxLen) (hm : Mk w) (hf : Tf w) :
    Calls Tryd.prog 4 #[.slice A0 n0 c0, .slice A1 n1 c1] w fun e w' => e = .returned (.bool true) ∧ Below w.heap.size w w' := by
  have HW := Lib.hid (works_any w hm hf)
  have HM := Lib.hid hm
  have HF := Lib.hid hf
  have tkr : ∀ {A : Option Addr} {l : List UInt8} (m : Nat), Rd w A (cB l) → Rd w A (cB (l.take m)) := fun {A l} m h j u hu => by
    rw [show cB (List.take m l) = (cB l).take m from by simp [cB]] at hu
    have hj : j < m := by have := (List.getElem?_eq_some_iff.1 hu).1; rw [List.length_take] at this; omega
    rw [List.getElem?_take_of_lt hj] at hu
    exact h j u hu
  obtain ⟨N, hN⟩ : ∃ N, N = min n0 200 := ⟨_, rfl⟩
  obtain ⟨M, hM⟩ : ∃ M, M = min n1 200 := ⟨_, rfl⟩
  obtain ⟨ds, hds⟩ : ∃ ds, ds = xa.take N := ⟨_, rfl⟩
  obtain ⟨es, hes⟩ : ∃ es, es = xb.take M := ⟨_, rfl⟩
  have hld : ds.length = N := by rw [hds, List.length_take]; omega
  have hle : es.length = M := by rw [hes, List.length_take]; omega
  have RD := Lib.hid (show Rd w A0 (cB ds) by rw [hds]; exact tkr N r0)
  have RE := Lib.hid (show Rd w A1 (cB es) by rw [hes]; exact tkr M r1)
  have LD := Lib.hid hld
  have LE := Lib.hid hle
  have hN2 : N ≤ 200 := by omega
  have hM2 : M ≤ 200 := by omega
  have hc0 : (n0 : Int) ≤ (c0 : Int) := by omega
  have hc1 : (n1 : Int) ≤ (c1 : Int) := by omega
  have e0 : (if (200 : Int) < (n0 : Int) then (200 : Int) else (n0 : Int)) = (N : Int) := by rw [hN]; split <;> omega
  have e1 : (if (200 : Int) < (n1 : Int) then (200 : Int) else (n1 : Int)) = (M : Int) := by rw [hM]; split <;> omega
  have i0 : (0 : Int) ≤ (N : Int) := by omega
  have i1 : (0 : Int) ≤ (M : Int) := by omega
  have i2 : (N : Int) ≤ (c0 : Int) := by omega
  have i3 : (M : Int) ≤ (c1 : Int) := by omega
  have HNN := Lib.hid hN
  have HMM := Lib.hid hM
  clear hm hf r0 l0 b0 r1 l1 b1 tkr hds hes hld hle e0 e1 hN hM
  go_enter Tryd.func4, Tryd.ntmps4
  go_upto_region 3 with (go_at_call 7; refine HW.out.mono ?_; rintro e w1 ⟨rfl, hb1⟩; have HB1 := Lib.hid hb1; clear hb1)
  go_cut [0, 1] from 23 to 32 (fun s0 s1 wx => s0 = .slice A0 N c0 ∧ s1 = .slice A1 M c1 ∧ Below w1.heap.size w1 wx)
  case first =>
    go_region
    go_wp2_with fail
    go_meet
    case rel => exact ⟨by rw [← HNN.out], by rw [← HMM.out], (Below.refl _ _).drew⟩
  case rest =>
    obtain ⟨rfl, rfl, hb⟩ := hcut
    have HB2 := Lib.hid (up HB1.out hb)
    clear hb
    obtain ⟨R, hR⟩ : ∃ R, R = runS (begS 0, []) ds := ⟨_, rfl⟩
    have hmy : mayS R.1 = true := by rw [hR]; exact run_may ds _ (by decide)
    have hkv : Kv R.2 := by rw [hR]; exact run_kv ds _ (by decide) (fun e he => by cases he)
    have hln : R.2.length ≤ 2 * N := by have := run_len ds (begS 0, []); rw [← hR, LD.out] at this; simpa using this
    have hfa := feed0_any A0 N c0 ds wc (HM.out.keep HB2.out) (HF.out.keep HB2.out) (RD.out.below HB2.out) LD.out.symm (by omega)
    rw [← hR] at hfa
    obtain ⟨⟨st, utf, pr, fi, pp, it, tx, bad⟩, L⟩ := R
    dsimp only at hfa hmy hkv hln
    have HFA := Lib.hid hfa
    have HMY := Lib.hid hmy
    have HKV := Lib.hid hkv
    have HLN := Lib.hid hln
    have HR := Lib.hid hR
    clear hfa hmy hkv hR hln
    go_upto_region 5 with (go_at_call 8; refine HFA.out.mono ?_; rintro e w2 ⟨Au, cu, Aq, cq, Av, cv, xs, he0, hp2, hb2⟩; have he1 : e = .returned (.tuple #[.agg #[.int .i64 st, .slice Au utf.length cu, .int .u8 (pr.toNat : Int), .int .u8 (fi.toNat : Int), .slice Aq pp.length cq, .string it, .string tx, .bool bad], .slice Av xs.length cv, .int .i64 0]) := he0; clear he0; subst he1; have HP2 := Lib.hid hp2; have HB3 := Lib.hid hb2; clear hp2 hb2)
    have hx3 := Box.new w2 #[.int .i64 st, .slice Au utf.length cu, .int .u8 (pr.toNat : Int), .int .u8 (fi.toNat : Int), .slice Aq pp.length cq, .string it, .string tx, .bool bad] 26
    have hb3 := below_box w2 (.cells #[.int .i64 st, .slice Au utf.length cu, .int .u8 (pr.toNat : Int), .int .u8 (fi.toNat : Int), .slice Aq pp.length cq, .string it, .string tx, .bool bad] 26)
    have HX3 := Lib.hid hx3
    have HP3 := Lib.hid (HP2.out.keep hb3)
    have HB4 := Lib.hid (up (up HB2.out HB3.out) hb3)
    clear hx3 hb3 HFA
    generalize w2.alloc (.cells #[.int .i64 st, .slice Au utf.length cu, .int .u8 (pr.toNat : Int), .int .u8 (fi.toNat : Int), .slice Aq pp.length cq, .string it, .string tx, .bool bad] 26) = w3 at HX3 HP3 HB4 ⊢
    generalize w2.heap.size = T5 at HX3 ⊢
    obtain ⟨R, hR⟩ : ∃ R, R = runS (begS 0, []) es := ⟨_, rfl⟩
    have hmy : mayS R.1 = true := by rw [hR]; exact run_may es _ (by decide)
    have hkv : Kv R.2 := by rw [hR]; exact run_kv es _ (by decide) (fun e he => by cases he)
    have hln : R.2.length ≤ 2 * M := by have := run_len es (begS 0, []); rw [← hR, LE.out] at this; simpa using this
    have hfa := feed0_any A1 M c1 es w3 (HM.out.keep HB4.out) (HF.out.keep HB4.out) (RE.out.below HB4.out) LE.out.symm (by omega)
    rw [← hR] at hfa
    obtain ⟨⟨st1, utf1, pr1, fi1, pp1, it1, tx1, bad1⟩, L1⟩ := R
    dsimp only at hfa hmy hkv hln
    have HFA := Lib.hid hfa
    have HMY1 := Lib.hid hmy
    have HKV1 := Lib.hid hkv
    have HLN1 := Lib.hid hln
    have HR1 := Lib.hid hR
    clear hfa hmy hkv hR hln
    go_upto_region 6 with (go_at_call 8; refine HFA.out.mono ?_; rintro e w4 ⟨Au1, cu1, Aq1, cq1, Av1, cv1, xs1, he0, hp4, hb4⟩; have he1 : e = .returned (.tuple #[.agg #[.int .i64 st1, .slice Au1 utf1.length cu1, .int .u8 (pr1.toNat : Int), .int .u8 (fi1.toNat : Int), .slice Aq1 pp1.length cq1, .string it1, .string tx1, .bool bad1], .slice Av1 xs1.length cv1, .int .i64 0]) := he0; clear he0; subst he1; have HP4 := Lib.hid hp4; have HB5 := Lib.hid hb4; clear hp4 hb4)
    have hx5 := Box.new w4 #[.int .i64 st1, .slice Au1 utf1.length cu1, .int .u8 (pr1.toNat : Int), .int .u8 (fi1.toNat : Int), .slice Aq1 pp1.length cq1, .string it1, .string tx1, .bool bad1] 26
    have hb5 := below_box w4 (.cells #[.int .i64 st1, .slice Au1 utf1.length cu1, .int .u8 (pr1.toNat : Int), .int .u8 (fi1.toNat : Int), .slice Aq1 pp1.length cq1, .string it1, .string tx1, .bool bad1] 26)
    have HX5 := Lib.hid hx5
    have HXP := Lib.hid ((HX3.out.keep HB5.out).keep hb5)
    have HP5 := Lib.hid (HP4.out.keep hb5)
    have HPP := Lib.hid ((HP3.out.keep HB5.out).keep hb5)
    have HB6 := Lib.hid (up (up HB4.out HB5.out) hb5)
    clear hx5 hb5 HFA
    generalize w4.alloc (.cells #[.int .i64 st1, .slice Au1 utf1.length cu1, .int .u8 (pr1.toNat : Int), .int .u8 (fi1.toNat : Int), .slice Aq1 pp1.length cq1, .string it1, .string tx1, .bool bad1] 26) = w5 at HX5 HXP HP5 HPP HB6 ⊢
    generalize w4.heap.size = T8 at HX5 ⊢
    go_wp2_with fail
    go_loopw [54] (fun i wr => ∃ k : Nat, k ≤ 3 ∧ i = .int .i64 k ∧ Hid (Below w5.heap.size w5 wr)) (fun i _ => 3 - (intOf i).toNat)
    case atStart => exact ⟨0, by omega, rfl, Below.refl _ _⟩
    case round =>
      obtain ⟨k, hk, rfl, hid⟩ := hrel
      by_cases hlt : k < 3
      · have hbr : Below w.heap.size w wr := up HB6.out hid.out
        have HBR := Lib.hid hbr
        have ix := ixEnd k hlt wr
        obtain ⟨S, hS⟩ : ∃ S : ByteArray, S = ⟨(endN k).toArray⟩ := ⟨_, rfl⟩
        rw [← hS] at ix
        have hSl : S.data.toList = endN k := by rw [hS]
        have hSz : S.size = (endN k).length := by rw [hS]; rfl
        have hSn : (endN k).length ≤ 2 := by unfold endN; split; decide; split <;> decide
        obtain ⟨cb, w6, hrun, hcb, hrow, hb6, hs6⟩ := Col.run_row (P := Tryd.prog) wr 9 22 S Tryd.underlying9 Tryd.underlying22 Tryd.underlying5
        obtain ⟨ev, hev, hel, he1⟩ := run_end ⟨st, utf, pr, fi, pp, it, tx, bad⟩ k
        have hpr := (HPP.out.keep hid.out).keep hb6
        have hrd := hrow.rd
        rw [hSl] at hrd
        have hfa := feedp_any ⟨st, utf, pr, fi, pp, it, tx, bad⟩ Au Aq (some ⟨wr.heap.size, 0, none⟩) cu cq S.size cb (endN k) w6 HMY.out hpr.1 (HM.out.keep (up hbr hb6)) (HF.out.keep (up hbr hb6)) hrd hSz (by omega)
        rw [hev] at hfa
        have HFA := Lib.hid hfa
        have HEV := Lib.hid hev
        have HEL := Lib.hid hel
        have HE1 := Lib.hid he1
        have HSL := Lib.hid hSl
        have HSS := Lib.hid hS
        have HB61 := Lib.hid hb6
        have HID := Lib.hid hid.out
        have hxp := HXP.out.keep hid.out
        have x0 := hxp.cell 0 _ rfl
        have x1 := hxp.cell 1 _ rfl
        have x2 := hxp.cell 2 _ rfl
        have x3 := hxp.cell 3 _ rfl
        have x4 := hxp.cell 4 _ rfl
        have x5 := hxp.cell 5 _ rfl
        have x6 := hxp.cell 6 _ rfl
        have x7 := hxp.cell 7 _ rfl
        clear hbr hid hS hSl hcb hrow hb6 hs6 hev hel he1 hpr hrd hfa hxp
        have hS3 : S.size ≤ 2 := by omega
        clear hSz hSn
        go_upto_region 12 with (go_at_call 8; refine HFA.out.mono ?_; rintro e w7 ⟨Au9, cu9, Aq9, cq9, Av9, cv9, xs9, he0, hp7, hb7⟩; have he1 : e = .returned (.tuple #[.agg #[.int .i64 0, .slice Au9 0 cu9, .int .u8 0, .int .u8 0, .slice Aq9 0 cq9, .string ⟨#[]⟩, .string ⟨#[]⟩, .bool false], .slice Av9 xs9.length cv9, .int .i64 0]) := he0; clear he0; subst he1; have HP7 := Lib.hid hp7; have HB7 := Lib.hid hb7; clear hp7 hb7)
        have hx8 := Box.new w7 #[.int .i64 0, .slice Au9 0 cu9, .int .u8 0, .int .u8 0, .slice Aq9 0 cq9, .string ⟨#[]⟩, .string ⟨#[]⟩, .bool false] 26
        have hb8 := below_box w7 (.cells #[.int .i64 0, .slice Au9 0 cu9, .int .u8 0, .int .u8 0, .slice Aq9 0 cq9, .string ⟨#[]⟩, .string ⟨#[]⟩, .bool false] 26)
        have HX8 := Lib.hid hx8
        have HP8 := Lib.hid (HP7.out.keep hb8)
        have HB8 := Lib.hid (up (up HB61.out HB7.out) hb8)
        clear x0 x1 x2 x3 x4 x5 x6 x7 ix hrun hx8 hb8 HFA
        generalize w7.alloc (.cells #[.int .i64 0, .slice Au9 0 cu9, .int .u8 0, .int .u8 0, .slice Aq9 0 cq9, .string ⟨#[]⟩, .string ⟨#[]⟩, .bool false] 26) = w8 at HX8 HP8 HB8 ⊢
        generalize w7.heap.size = T13 at HX8 ⊢
        have hx8 := HX8.out
        have x0 := hx8.cell 0 _ rfl
        have x1 := hx8.cell 1 _ rfl
        have x2 := hx8.cell 2 _ rfl
        have x3 := hx8.cell 3 _ rfl
        have x4 := hx8.cell 4 _ rfl
        have x5 := hx8.cell 5 _ rfl
        have x6 := hx8.cell 6 _ rfl
        have x7 := hx8.cell 7 _ rfl
        have hxl : xs9.length ≤ 2 := by have := HP8.out.2.2.1; have h2 := congrArg List.length this; rw [List.length_map] at h2; have := HEL.out; omega
        have hxl2 : decide (2 < xs9.length) = false := decide_eq_false (by omega)
        have hxl3 : decide ((2 : Int) < (xs9.length : Int)) = false := decide_eq_false (by omega)
        have HSM := Lib.hid (show Calls Tryd.prog 10 #[.agg #[.int .i64 0, .slice Au9 0 cu9, .int .u8 0, .int .u8 0, .slice Aq9 0 cq9, .string ⟨#[]⟩, .string ⟨#[]⟩, .bool false], .agg #[.int .i64 0, .slice none 0 0, .int .u8 0, .int .u8 0, .slice none 0 0, .string ⟨#[]⟩, .string ⟨#[]⟩, .bool false]] w8 (fun e w' => e = .returned (.bool true) ∧ Below w8.heap.size w8 w') from by
          have h := rsame6_any (begS 0) (begS 0) Au9 none Aq9 none 0 0 cu9 0 0 0 cq9 0 w8 HP8.out.1 (RS.nil _ _ rfl rfl) kq_nil kq_nil
          rw [(eqS_iff _ _).2 rfl] at h
          exact h)
        clear hx8
        go_upto_region 14 with (go_at_call 10; refine HSM.out.mono ?_; rintro e w9 ⟨rfl, hb9⟩; have HB9 := Lib.hid hb9; clear hb9)
        have hq : (S.toList == (⟨#[27, 99]⟩ : ByteArray).toList) = decide (k = 1) := by
          rw [HSS.out]
          rcases (show k = 0 ∨ k = 1 ∨ k = 2 by omega) with rfl | rfl | rfl <;> decide +kernel
        go_cut [12, 14, 95] from 55 to 94 (fun s12 s14 v wx => s12 = .string S ∧ s14 = .slice Av9 xs9.length cv9 ∧ v = .bool false ∧ Below w9.heap.size w9 wx)
        case first =>
          by_cases hk1 : k = 1
          · obtain ⟨f, hf⟩ := HE1.out hk1
            have hS1 : S = ⟨#[27, 99]⟩ := by rw [HSS.out, hk1]; rfl
            rw [hS1]
            have HS1 := Lib.hid hS1
            clear hq
            have hxm := HP8.out.2.2.1
            rw [hf] at hxm
            have hn9 : xs9.length = 1 ∨ xs9.length = 2 := by have := congrArg List.length hxm; rw [List.length_map, List.length_append] at this; simp at this; omega
            rcases hn9 with hm | hm
            · obtain ⟨x, hx⟩ : ∃ x, xs9[0]? = some x := ⟨xs9[0]'(by omega), List.getElem?_eq_getElem (by omega)⟩
              have hxe : x.e = esE nos 99 := by
                have h1 : (xs9.map (·.e))[0]? = some x.e := by rw [List.getElem?_map, hx]; rfl
                rw [hxm] at h1
                have h2 : f.length = 0 := by have := congrArg List.length hxm; rw [List.length_map, List.length_append, hm] at this; simpa using this.symm
                rw [← h2] at h1
                simpa using h1.symm
              have hp9 := HP8.out.keep HB9.out
              obtain ⟨b', o', hA, hgl, hrg⟩ := hp9.2.1.rd 0 x hx
              obtain ⟨g, hgA⟩ : ∃ g, Av9 = some ⟨g, 0, none⟩ := by
                rcases hp9.2.1.2 with ⟨hv, h0⟩ | ⟨g, cap, cur, hv, _⟩
                · omega
                · injection hv with e1 _ _; exact ⟨g, e1⟩
              subst hgA
              injection hA with hA
              injection hA with e1 e2 _
              subst e1; subst e2
              have hrl := hp9.2.2.2 x (List.mem_of_getElem? hx)
              obtain ⟨xe, Ax, nx, cx⟩ := x
              dsimp only at hxe hrl hrg
              subst hxe
              rw [hm] at hxl hxl2 hxl3 ⊢
              have HM9 := Lib.hid hm
              have HAL := Lib.hid (fun (W : World) (hW : Below w9.heap.size w9 W) => show Calls Tryd.prog 12 #[.agg #[.int .i64 3, .int .i64 0, .int .u8 0, .int .u8 99, .slice Ax nx cx, .string ⟨#[]⟩, .string ⟨#[]⟩], .agg #[.int .i64 3, .int .i64 0, .int .u8 0, .int .u8 99, .slice none 0 0, .string ⟨#[]⟩, .string ⟨#[]⟩]] W (fun e w' => e = .returned (.bool true) ∧ Below W.heap.size W w') from by
                have h := ralike_any (esE nos 99) (esE nos 99) Ax none nx 0 cx 0 W (hrl.keep hW) (RL.nil _) kq_nil kq_nil
                rw [(eqE_iff _ _).2 rfl] at h
                exact h)
              have HCL := Lib.hid (fun (i : Nat) (v : Value) (h : (cE ⟨esE nos 99, Ax, nx, cx⟩)[i]? = some v) => hrg i v h)
              have HGL := Lib.hid hgl
              clear hk1 hf hxm hx hp9 hrl hrg hgl hS1 hm
              have hc := HCL.out
              obtain ⟨c0, c1, c2, c3, c4, c5, c6⟩ := (show w9.cell? ⟨g, 0, none⟩ = some (.int .i64 3) ∧ w9.cell? ⟨g, 1, none⟩ = some (.int .i64 0) ∧ w9.cell? ⟨g, 2, none⟩ = some (.int .u8 0) ∧ w9.cell? ⟨g, 3, none⟩ = some (.int .u8 99) ∧ w9.cell? ⟨g, 4, none⟩ = some (.slice Ax nx cx) ∧ w9.cell? ⟨g, 5, none⟩ = some (.string ⟨#[]⟩) ∧ w9.cell? ⟨g, 6, none⟩ = some (.string ⟨#[]⟩) from ⟨hc 0 _ rfl, hc 1 _ rfl, hc 2 _ rfl, hc 3 _ rfl, hc 4 _ rfl, hc 5 _ rfl, hc 6 _ rfl⟩)
              have HKC := Lib.hid (fun (W : World) (hW : Below w9.heap.size w9 W) => show W.cell? ⟨g, 0, none⟩ = some (.int .i64 3) ∧ W.cell? ⟨g, 1, none⟩ = some (.int .i64 0) ∧ W.cell? ⟨g, 2, none⟩ = some (.int .u8 0) ∧ W.cell? ⟨g, 3, none⟩ = some (.int .u8 99) ∧ W.cell? ⟨g, 4, none⟩ = some (.slice Ax nx cx) ∧ W.cell? ⟨g, 5, none⟩ = some (.string ⟨#[]⟩) ∧ W.cell? ⟨g, 6, none⟩ = some (.string ⟨#[]⟩) from ⟨(hW.cell (p := ⟨g, 0, none⟩) HGL.out).trans c0, (hW.cell (p := ⟨g, 1, none⟩) HGL.out).trans c1, (hW.cell (p := ⟨g, 2, none⟩) HGL.out).trans c2, (hW.cell (p := ⟨g, 3, none⟩) HGL.out).trans c3, (hW.cell (p := ⟨g, 4, none⟩) HGL.out).trans c4, (hW.cell (p := ⟨g, 5, none⟩) HGL.out).trans c5, (hW.cell (p := ⟨g, 6, none⟩) HGL.out).trans c6⟩)
              have D := (Below.refl w9.heap.size w9).drew
              have hix1 : ∀ W : World, (Instr.indexAt 27 (.slice (some ⟨g, 0, none⟩) 1 cv9) (.int .i64 0)).run Tryd.prog W = .ok (.pointer (some ⟨g, 0, none⟩)) W := fun W => ixE g 0 1 cv9 0 (by decide) W
              have hw1 : IntKind.i64.wrap 0 = 0 := by decide
              clear hc c0 c1 c2 c3 c4 c5 c6
              go_region_held3 (fun W => W.cell? ⟨g, 0, none⟩ = some (.int .i64 3) ∧ W.cell? ⟨g, 1, none⟩ = some (.int .i64 0) ∧ W.cell? ⟨g, 2, none⟩ = some (.int .u8 0) ∧ W.cell? ⟨g, 3, none⟩ = some (.int .u8 99) ∧ W.cell? ⟨g, 4, none⟩ = some (.slice Ax nx cx) ∧ W.cell? ⟨g, 5, none⟩ = some (.string ⟨#[]⟩) ∧ W.cell? ⟨g, 6, none⟩ = some (.string ⟨#[]⟩))
                (first | with_reducible exact HKC.out _ D | with_reducible assumption)
                (first
                  | (go_at_call 13; refine (lesc_any _ _ _).mono ?_; rintro e w' ⟨rfl, hb'⟩; have D := up D hb'; clear hb')
                  | (go_at_call 12; refine (HAL.out _ D).mono ?_; rintro e w' ⟨rfl, hb'⟩; have D := up D hb'; clear hb'))
              all_goals
                go_wp2_with fail
                go_meet
                case rel => exact ⟨by rw [HS1.out], by rw [HM9.out], rfl, D⟩
            · obtain ⟨x, hx⟩ : ∃ x, xs9[1]? = some x := ⟨xs9[1]'(by omega), List.getElem?_eq_getElem (by omega)⟩
              have hxe : x.e = esE nos 99 := by
                have h1 : (xs9.map (·.e))[1]? = some x.e := by rw [List.getElem?_map, hx]; rfl
                rw [hxm] at h1
                have h2 : f.length = 1 := by have := congrArg List.length hxm; rw [List.length_map, List.length_append, hm] at this; simpa using this.symm
                rw [← h2] at h1
                simpa using h1.symm
              have hp9 := HP8.out.keep HB9.out
              obtain ⟨b', o', hA, hgl, hrg⟩ := hp9.2.1.rd 1 x hx
              obtain ⟨g, hgA⟩ : ∃ g, Av9 = some ⟨g, 0, none⟩ := by
                rcases hp9.2.1.2 with ⟨hv, h0⟩ | ⟨g, cap, cur, hv, _⟩
                · omega
                · injection hv with e1 _ _; exact ⟨g, e1⟩
              subst hgA
              injection hA with hA
              injection hA with e1 e2 _
              subst e1; subst e2
              have hrl := hp9.2.2.2 x (List.mem_of_getElem? hx)
              obtain ⟨xe, Ax, nx, cx⟩ := x
              dsimp only at hxe hrl hrg
              subst hxe
              rw [hm] at hxl hxl2 hxl3 ⊢
              have HM9 := Lib.hid hm
              have HAL := Lib.hid (fun (W : World) (hW : Below w9.heap.size w9 W) => show Calls Tryd.prog 12 #[.agg #[.int .i64 3, .int .i64 0, .int .u8 0, .int .u8 99, .slice Ax nx cx, .string ⟨#[]⟩, .string ⟨#[]⟩], .agg #[.int .i64 3, .int .i64 0, .int .u8 0, .int .u8 99, .slice none 0 0, .string ⟨#[]⟩, .string ⟨#[]⟩]] W (fun e w' => e = .returned (.bool true) ∧ Below W.heap.size W w') from by
                have h := ralike_any (esE nos 99) (esE nos 99) Ax none nx 0 cx 0 W (hrl.keep hW) (RL.nil _) kq_nil kq_nil
                rw [(eqE_iff _ _).2 rfl] at h
                exact h)
              have HCL := Lib.hid (fun (i : Nat) (v : Value) (h : (cE ⟨esE nos 99, Ax, nx, cx⟩)[i]? = some v) => hrg i v h)
              have HGL := Lib.hid hgl
              clear hk1 hf hxm hx hp9 hrl hrg hgl hS1 hm
              have hc := HCL.out
              obtain ⟨c0, c1, c2, c3, c4, c5, c6⟩ := (show w9.cell? ⟨g, 7, none⟩ = some (.int .i64 3) ∧ w9.cell? ⟨g, 8, none⟩ = some (.int .i64 0) ∧ w9.cell? ⟨g, 9, none⟩ = some (.int .u8 0) ∧ w9.cell? ⟨g, 10, none⟩ = some (.int .u8 99) ∧ w9.cell? ⟨g, 11, none⟩ = some (.slice Ax nx cx) ∧ w9.cell? ⟨g, 12, none⟩ = some (.string ⟨#[]⟩) ∧ w9.cell? ⟨g, 13, none⟩ = some (.string ⟨#[]⟩) from ⟨hc 0 _ rfl, hc 1 _ rfl, hc 2 _ rfl, hc 3 _ rfl, hc 4 _ rfl, hc 5 _ rfl, hc 6 _ rfl⟩)
              have HKC := Lib.hid (fun (W : World) (hW : Below w9.heap.size w9 W) => show W.cell? ⟨g, 7, none⟩ = some (.int .i64 3) ∧ W.cell? ⟨g, 8, none⟩ = some (.int .i64 0) ∧ W.cell? ⟨g, 9, none⟩ = some (.int .u8 0) ∧ W.cell? ⟨g, 10, none⟩ = some (.int .u8 99) ∧ W.cell? ⟨g, 11, none⟩ = some (.slice Ax nx cx) ∧ W.cell? ⟨g, 12, none⟩ = some (.string ⟨#[]⟩) ∧ W.cell? ⟨g, 13, none⟩ = some (.string ⟨#[]⟩) from ⟨(hW.cell (p := ⟨g, 7, none⟩) HGL.out).trans c0, (hW.cell (p := ⟨g, 8, none⟩) HGL.out).trans c1, (hW.cell (p := ⟨g, 9, none⟩) HGL.out).trans c2, (hW.cell (p := ⟨g, 10, none⟩) HGL.out).trans c3, (hW.cell (p := ⟨g, 11, none⟩) HGL.out).trans c4, (hW.cell (p := ⟨g, 12, none⟩) HGL.out).trans c5, (hW.cell (p := ⟨g, 13, none⟩) HGL.out).trans c6⟩)
              have D := (Below.refl w9.heap.size w9).drew
              have hix1 : ∀ W : World, (Instr.indexAt 27 (.slice (some ⟨g, 0, none⟩) 2 cv9) (.int .i64 1)).run Tryd.prog W = .ok (.pointer (some ⟨g, 7, none⟩)) W := fun W => ixE g 0 2 cv9 1 (by decide) W
              have hw1 : IntKind.i64.wrap 1 = 1 := by decide
              clear hc c0 c1 c2 c3 c4 c5 c6
              go_region_held3 (fun W => W.cell? ⟨g, 7, none⟩ = some (.int .i64 3) ∧ W.cell? ⟨g, 8, none⟩ = some (.int .i64 0) ∧ W.cell? ⟨g, 9, none⟩ = some (.int .u8 0) ∧ W.cell? ⟨g, 10, none⟩ = some (.int .u8 99) ∧ W.cell? ⟨g, 11, none⟩ = some (.slice Ax nx cx) ∧ W.cell? ⟨g, 12, none⟩ = some (.string ⟨#[]⟩) ∧ W.cell? ⟨g, 13, none⟩ = some (.string ⟨#[]⟩))
                (first | with_reducible exact HKC.out _ D | with_reducible assumption)
                (first
                  | (go_at_call 13; refine (lesc_any _ _ _).mono ?_; rintro e w' ⟨rfl, hb'⟩; have D := up D hb'; clear hb')
                  | (go_at_call 12; refine (HAL.out _ D).mono ?_; rintro e w' ⟨rfl, hb'⟩; have D := up D hb'; clear hb'))
              all_goals
                go_wp2_with fail
                go_meet
                case rel => exact ⟨by rw [HS1.out], by rw [HM9.out], rfl, D⟩
          · have hS1 : S = ⟨#[24]⟩ ∨ S = ⟨#[27, 92]⟩ := by
              rw [HSS.out]
              rcases (show k = 0 ∨ k = 2 by omega) with rfl | rfl
              · exact .inl rfl
              · exact .inr rfl
            clear hq
            rcases hS1 with hS1 | hS1
            all_goals
              rw [hS1]
              have HS1 := Lib.hid hS1
              clear hS1
              go_region
              go_wp2_with fail
              go_meet
              case rel => exact ⟨by rw [HS1.out], rfl, rfl, (Below.refl _ _).drew⟩
        case rest =>
          obtain ⟨rfl, rfl, rfl, hb⟩ := hcut
          obtain ⟨wb, hwb⟩ : ∃ wb, wb = wc := ⟨_, rfl⟩
          subst hwb
          have HBW := Lib.hid (up (up HB8.out HB9.out) hb)
          have HPB := Lib.hid ((HP8.out.keep HB9.out).keep hb)
          clear hb hq x0 x1 x2 x3 x4 x5 x6 x7 HSM hxl2 hxl3
          obtain ⟨i0, hi0, hz0, hz1, hz2⟩ := info_parts infoBy
          have hw5 : Below w5.heap.size w5 wb := up HID.out HBW.out
          have hwa : Below w.heap.size w wb := up HB6.out hw5
          have HW5 := Lib.hid hw5
          have HWA := Lib.hid hwa
          clear hw5 hwa
          have hbe := below_box wb (.cells #[] 5)
          have HRD1 := Lib.hid ((RD.out.below HWA.out).below hbe)
          have HO0 := Lib.hid (show (wb.alloc (.cells #[] 5)).ownsRow wb.heap.size 5 1 (.slice (some ⟨wb.heap.size, 0, none⟩) 0 0) 0 [] from World.ownsRow_lit wb #[] 0 (Nat.le_refl _) (by decide) rfl)
          have HBE := Lib.hid hbe
          have HDL := Lib.hid (show (cB ds).length = N by rw [cB_len, LD.out])
          have HEL2 := Lib.hid (show (cB es).length = M by rw [cB_len, LE.out])
          clear hbe
          go_upto_region 17 with (first
            | (at_builtin; refine wpList_app _ rfl (.tmp 96) (.tmp 97) 22 rfl wb.heap.size 5 i0 _ 1 Tryd.underlying22 hi0 hz0 hz1 hz2 rfl _ 0 [] rfl HO0.out A0 N c0 (cB ds) rfl HDL.out HRD1.out (cB_one _) (by omega) (by omega) HBE.out.size ?_; intro v1 w21 hown hg hn'; have HO1 := Lib.hid hown; have HB21 := Lib.hid (HBE.out.grown hg HBE.out.size (fun kk hkk => (HO0.out.lt kk hkk).1)); clear hown hg hn')
            | (at_builtin; refine wpList_appS _ rfl (.tmp 98) (.tmp 99) rfl wb.heap.size v1 (0 + N) ([] ++ cB ds) rfl HO1.out S rfl (by omega) HB21.out.size ?_; intro v2 w22 hown hg; have HO2 := Lib.hid hown; have HB22 := Lib.hid (HB21.out.grown hg HB21.out.size (fun kk hkk => (HO1.out.lt kk hkk).1)); clear hown hg)
            | (at_builtin; refine wpList_app _ rfl (.tmp 100) (.tmp 101) 22 rfl wb.heap.size 5 i0 _ 1 Tryd.underlying22 hi0 hz0 hz1 hz2 rfl v2 (0 + N + S.size) ([] ++ cB ds ++ cB S.data.toList) rfl HO2.out A1 M c1 (cB es) rfl HEL2.out ((RE.out.below HWA.out).below HB22.out) (cB_one _) (by omega) (by omega) HB22.out.size ?_; intro v3 w23 hown hg hn'; have HO3 := Lib.hid hown; have HB23 := Lib.hid (HB22.out.grown hg HB22.out.size (fun kk hkk => (HO2.out.lt kk hkk).1)); clear hown hg hn'; obtain ⟨A3, c3, hv3, hc3, hr3⟩ := own_slice HO3.out; subst hv3; have HR3 := Lib.hid hr3; clear hr3 hc3))
          obtain ⟨n3, hn3⟩ : ∃ n3, n3 = 0 + N + S.size + M := ⟨_, rfl⟩
          have hall : [] ++ cB ds ++ cB S.data.toList ++ cB es = cB (ds ++ endN k ++ es) := by rw [List.nil_append, HSL.out, ← cB_append, ← cB_append]
          have hr3 := HR3.out
          rw [hall] at hr3
          have hlen : n3 = (ds ++ endN k ++ es).length := by
            have h := HO3.out.1
            rw [hall, cB_len, Nat.mul_one] at h
            rw [hn3, h]
          have hrs := run_ends ds es k
          rw [← HR.out, ← HR1.out] at hrs
          dsimp only at hrs
          rw [HEV.out] at hrs
          have hba : Below w.heap.size w w23 := up HWA.out HB23.out
          have hfa := feed0_any A3 n3 c3 (ds ++ endN k ++ es) w23 (HM.out.keep hba) (HF.out.keep hba) hr3 hlen (by omega)
          rw [hrs] at hfa
          have HFA := Lib.hid hfa
          have hkv : Kv (L ++ ev ++ L1) := fun e he => by
            rcases List.mem_append.1 he with he | he
            · rcases List.mem_append.1 he with he | he
              · exact HKV.out e he
              · have h := run_kv (endN k) (⟨st, utf, pr, fi, pp, it, tx, bad⟩, []) HMY.out (fun e he => by cases he)
                rw [HEV.out] at h
                exact h e he
            · exact HKV1.out e he
          have HKA := Lib.hid hkv
          have HBA := Lib.hid hba
          rw [show N + S.size + M = n3 by omega]
          have hn4 : n3 ≤ 500 := by omega
          clear hall hr3 hlen hrs hba hfa hkv hn3
          go_upto_region 18 with (go_at_call 8; refine HFA.out.mono ?_; rintro e w24 ⟨Au2, cu2, Aq2, cq2, Av2, cv2, xs2, he0, hp24, hb24⟩; have he1 : e = .returned (.tuple #[.agg #[.int .i64 st1, .slice Au2 utf1.length cu2, .int .u8 (pr1.toNat : Int), .int .u8 (fi1.toNat : Int), .slice Aq2 pp1.length cq2, .string it1, .string tx1, .bool bad1], .slice Av2 xs2.length cv2, .int .i64 0]) := he0; clear he0; subst he1; have HP24 := Lib.hid hp24; have HB24 := Lib.hid hb24; clear hp24 hb24)
          have hx25 := Box.new w24 #[.int .i64 st1, .slice Au2 utf1.length cu2, .int .u8 (pr1.toNat : Int), .int .u8 (fi1.toNat : Int), .slice Aq2 pp1.length cq2, .string it1, .string tx1, .bool bad1] 26
          have hb25 := below_box w24 (.cells #[.int .i64 st1, .slice Au2 utf1.length cu2, .int .u8 (pr1.toNat : Int), .int .u8 (fi1.toNat : Int), .slice Aq2 pp1.length cq2, .string it1, .string tx1, .bool bad1] 26)
          have HX25 := Lib.hid hx25
          have HP25 := Lib.hid (HP24.out.keep hb25)
          have HB25 := Lib.hid (up (up HB23.out HB24.out) hb25)
          clear hx25 hb25 HFA
          generalize w24.alloc (.cells #[.int .i64 st1, .slice Au2 utf1.length cu2, .int .u8 (pr1.toNat : Int), .int .u8 (fi1.toNat : Int), .slice Aq2 pp1.length cq2, .string it1, .string tx1, .bool bad1] 26) = w25 at HX25 HP25 HB25 ⊢
          generalize w24.heap.size = T17 at HX25 ⊢
          have hbv := below_box w25 (.cells #[] 38)
          have HV0 := Lib.hid (show OwnV (w25.alloc (.cells #[] 38)) w25.heap.size (.slice (some ⟨w25.heap.size, 0, none⟩) 0 0) [] from World.ownsRow_lit w25 #[] 0 (Nat.le_refl _) (by decide) rfl)
          have HBV := Lib.hid hbv
          have h5v := up HW5.out HB25.out
          have HS1 := Lib.hid (((HPP.out.keep h5v).keep hbv))
          have HS3 := Lib.hid (((HP5.out.keep h5v).keep hbv))
          have HS2 := Lib.hid ((HPB.out.keep HB25.out).keep hbv)
          have HX8E := Lib.hid (HX5.out.keep h5v)
          have HL5 := Lib.hid h5v
          have hx1 : xs.length ≤ 2 * N := by have h := congrArg List.length HPP.out.2.2.1; rw [List.length_map] at h; have := HLN.out; omega
          have hx2 : xs1.length ≤ 2 * M := by have h := congrArg List.length HP5.out.2.2.1; rw [List.length_map] at h; have := HLN1.out; omega
          clear hbv h5v
          go_upto_region 19 with (first
            | (at_builtin; refine wpList_appV _ rfl (.tmp 110) (.tmp 111) rfl w25.heap.size _ [] rfl HV0.out Av xs.length cv xs rfl rfl HS1.out.2.1.rd (by simp; omega) HBV.out.size ?_; intro v4 w26 hown hb hg; have HV1 := Lib.hid hown; have HB26 := Lib.hid (HBV.out.grown hg HBV.out.size (fun kk hkk => (HV0.out.blk kk hkk).1)); have HG1 := Lib.hid hg; clear hown hb hg)
            | (at_builtin; refine wpList_appV _ rfl (.tmp 112) (.tmp 113) rfl w25.heap.size v4 ([] ++ xs) rfl HV1.out Av9 xs9.length cv9 xs9 rfl rfl (((HPB.out.keep HB25.out).2.1.keep HB26.out).rd) (by simp; omega) HB26.out.size ?_; intro v5 w27 hown hb hg; have HV2 := Lib.hid hown; have HB27 := Lib.hid (HB26.out.grown hg HB26.out.size (fun kk hkk => (HV1.out.blk kk hkk).1)); clear hown hb hg)
            | (at_builtin; refine wpList_appV _ rfl (.tmp 114) (.tmp 115) rfl w25.heap.size v5 ([] ++ xs ++ xs9) rfl HV2.out Av1 xs1.length cv1 xs1 rfl rfl (((HP5.out.keep HL5.out).2.1.keep HB27.out).rd) (by simp; omega) HB27.out.size ?_; intro v6 w28 hown hb hg; have HV3 := Lib.hid hown; have HB28 := Lib.hid (HB27.out.grown hg HB27.out.size (fun kk hkk => (HV2.out.blk kk hkk).1)); clear hown hb hg))
          have HX17 := Lib.hid (HX25.out.keep HB28.out)
          have HX8F := Lib.hid (HX8E.out.keep HB28.out)
          clear HX8E
          have HX8E := HX8F
          have hrv1 : RV w28 (.slice Av2 xs2.length cv2) (L ++ ev ++ L1) := by have h := HP25.out.2.1.rv HP25.out.2.2.2; rw [HP25.out.2.2.1] at h; exact h.keep HB28.out
          have hrv2 : RV w28 v6 (L ++ ev ++ L1) := by
            have hq : QsE w28 ([] ++ xs ++ xs9 ++ xs1) := by
              rw [List.nil_append]
              exact (((HPP.out.keep HL5.out).2.2.2.keep HB28.out).app ((HPB.out.keep HB25.out).2.2.2.keep HB28.out)).app ((HP5.out.keep HL5.out).2.2.2.keep HB28.out)
            have h := HV3.out.rv hq
            rw [List.nil_append, List.map_append, List.map_append, HPP.out.2.2.1, HPB.out.2.2.1, HP5.out.2.2.1] at h
            exact h
          obtain ⟨A6, c6, hv6⟩ := hrv2.form
          subst hv6
          have hkq := may_kq HMY1.out
          have HSM := Lib.hid (fun (W : World) (hW : Below w28.heap.size w28 W) => show Calls Tryd.prog 10 #[.agg #[.int .i64 st1, .slice Au2 utf1.length cu2, .int .u8 (pr1.toNat : Int), .int .u8 (fi1.toNat : Int), .slice Aq2 pp1.length cq2, .string it1, .string tx1, .bool bad1], .agg #[.int .i64 st1, .slice Au1 utf1.length cu1, .int .u8 (pr1.toNat : Int), .int .u8 (fi1.toNat : Int), .slice Aq1 pp1.length cq1, .string it1, .string tx1, .bool bad1]] W (fun e w' => e = .returned (.bool true) ∧ Below W.heap.size W w') from by
            have h := rsame6_any ⟨st1, utf1, pr1, fi1, pp1, it1, tx1, bad1⟩ ⟨st1, utf1, pr1, fi1, pp1, it1, tx1, bad1⟩ Au2 Au1 Aq2 Aq1 utf1.length utf1.length cu2 cu1 pp1.length pp1.length cq2 cq1 W ((HP25.out.keep HB28.out).1.keep hW) (((HP5.out.keep HL5.out).keep HB28.out).1.keep hW) hkq hkq
            rw [(eqS_iff _ _).2 rfl] at h
            exact h)
          have HEVT := Lib.hid (fun (W : World) (hW : Below w28.heap.size w28 W) => show Calls Tryd.prog 11 #[.slice Av2 xs2.length cv2, .slice A6 (L ++ ev ++ L1).length c6] W (fun e w' => e = .returned (.bool true) ∧ Below W.heap.size W w') from by
            have h := revents_any (.slice Av2 xs2.length cv2) (.slice A6 (L ++ ev ++ L1).length c6) (L ++ ev ++ L1) (L ++ ev ++ L1) W (hrv1.keep hW) (hrv2.keep hW) HKA.out HKA.out
            rw [(evB_iff _ _).2 rfl] at h
            exact h)
          have D := Below.refl w28.heap.size w28
          have hxe := HX17.out.keep D
          have hxp := HX8E.out.keep D
          have x0 := hxe.cell 0 _ rfl
          have x1 := hxe.cell 1 _ rfl
          have x2 := hxe.cell 2 _ rfl
          have x3 := hxe.cell 3 _ rfl
          have x4 := hxe.cell 4 _ rfl
          have x5 := hxe.cell 5 _ rfl
          have x6 := hxe.cell 6 _ rfl
          have x7 := hxe.cell 7 _ rfl
          have y0 := hxp.cell 0 _ rfl
          have y1 := hxp.cell 1 _ rfl
          have y2 := hxp.cell 2 _ rfl
          have y3 := hxp.cell 3 _ rfl
          have y4 := hxp.cell 4 _ rfl
          have y5 := hxp.cell 5 _ rfl
          have y6 := hxp.cell 6 _ rfl
          have y7 := hxp.cell 7 _ rfl
          clear hxe hxp
          clear hrv1 hrv2 hkq
          generalize (L ++ ev ++ L1).length = n6 at HEVT ⊢
          go_wp2_with (first
            | (go_at_call 10; refine (HSM.out _ D).mono ?_; rintro e w' ⟨rfl, hb'⟩; have D := up D hb'; clear hb' x0 x1 x2 x3 x4 x5 x6 x7 y0 y1 y2 y3 y4 y5 y6 y7; have hxe := HX17.out.keep D; have hxp := HX8E.out.keep D; have x0 := hxe.cell 0 _ rfl; have x1 := hxe.cell 1 _ rfl; have x2 := hxe.cell 2 _ rfl; have x3 := hxe.cell 3 _ rfl; have x4 := hxe.cell 4 _ rfl; have x5 := hxe.cell 5 _ rfl; have x6 := hxe.cell 6 _ rfl; have x7 := hxe.cell 7 _ rfl; have y0 := hxp.cell 0 _ rfl; have y1 := hxp.cell 1 _ rfl; have y2 := hxp.cell 2 _ rfl; have y3 := hxp.cell 3 _ rfl; have y4 := hxp.cell 4 _ rfl; have y5 := hxp.cell 5 _ rfl; have y6 := hxp.cell 6 _ rfl; have y7 := hxp.cell 7 _ rfl; clear hxe hxp)
            | (go_at_call 11; refine (HEVT.out _ D).mono ?_; rintro e w' ⟨rfl, hb'⟩; have D := up D hb'; clear hb'))
          go_roundw
          case rel => exact ⟨k + 1, by omega, by go_num, up (up HL5.out HB28.out) D⟩
          case measure => simp [intOf]; omega
      · go_wp2_with fail
        go_ret
        exact ⟨rfl, up HB6.out hid.out⟩
end Go.Proofs.YtefkbdmgplfgoaaDoor.Sta
