/-
  StaD StaDz StaDn StaDs StaDo StaDb
-/
import Derived.Test.YtmboekpomjgnnaaGreatDoorF5
import Derived.Test.YtmboekpomjgnnaaGreatDoorF11
import Derived.Test.YtmboekpomjgnnaaGreatDoorF37
import Derived.Test.YtmboekpomjgnnaaGreatDoorF38
namespace Go.Proofs.YtmboekpomjgnnaaGreatDoor.Sta
open Go.RowKit Utf Par

theorem rd_lit (w : World) (l : List Int) (t : TypeId) (cs : Array Value) (h : cs.toList = cI l) : Rd (w.alloc (.cells cs t)) (some ⟨w.heap.size, 0, none⟩) (cI l) := fun j u hu => by
  refine ⟨_, rfl, by simp, ?_⟩
  have e : Addr.add ⟨w.heap.size, 0, none⟩ j = ⟨w.heap.size, j, none⟩ := by rw [Addr.add_mid, Nat.zero_add]
  rw [e, Joins.cell_of_block (heap_alloc_new w _) j]
  rw [← h] at hu
  simpa using hu
theorem u8_zero (b : UInt8) : decide (b = 0) = decide (b.toNat = 0) := decide_eq_decide.2 ⟨fun h => by rw [h]; rfl, fun h => UInt8.toNat_inj.1 h⟩
theorem nil_len {α : Type} (l : List α) : decide (l = []) = decide (l.length = 0) := decide_eq_decide.2 (by simp)
end Go.Proofs.YtmboekpomjgnnaaGreatDoor.Sta

namespace Go.Proofs.YtmboekpomjgnnaaGreatDoor.Sta
open Go.RowKit Utf Par

set_option maxRecDepth 100000 in
set_option maxHeartbeats 8000000 in
theorem may_z (p : PS) (au aq : Option Addr) (nu cu nq cq : Nat) (w : World) (hr : RS w (.slice au nu cu) (.slice aq nq cq) p) (h1 : nu = p.utf.length) (h2 : nq = p.ps.length) (hu : nu ≤ 1000000) (hq : nq ≤ 1000000) (hi : p.it.size ≤ 1000000) (ht : p.tx.size ≤ 1000000) (hbad : p.bad = false) (hst : p.st = 0) :
    Calls Tryz.prog 21 #[.agg (cS p (.slice au nu cu) (.slice aq nq cq))] w fun e w' => e = .returned (.bool (mayS p)) ∧ Below w.heap.size w w' := by
  have g1 : hasB p.st [11, 12] = false := by rw [hst]; rfl
  have g2 : hasB p.st [5, 10] = false := by rw [hst]; rfl
  have g3 : hasB p.st [4, 9] = false := by rw [hst]; rfl
  have g4 : hasB p.st [6, 7] = false := by rw [hst]; rfl
  have g5 : hasB p.st [4, 5, 9, 10, 11, 12] = false := by rw [hst]; rfl
  have g6 : hasB p.st [6, 7, 11, 12] = false := by rw [hst]; rfl
  have g7 : leastS p.st = 0 ∧ mostS p.st = 0 := by rw [hst]; exact ⟨rfl, rfl⟩
  have g8 : 0 ≤ p.st ∧ p.st < 15 := by rw [hst]; decide
  have g9 : decide (p.st = 0) = true := by rw [hst]; rfl
  have c2 : (p.st == 2) = false := by rw [hst]; rfl
  have c0 : (p.st != 0) = false := by rw [hst]; rfl
  have c8 : decide (p.st < 0) = false := decide_eq_false (by omega)
  have c9 : decide (15 ≤ p.st) = false := decide_eq_false (by omega)
  have HB := Lib.hid (show mayS p = ((p.utf.isEmpty || preB p.utf) && (decide (nu = 0) || true) && !isBad p.ps && sigB p.it 0 0 && (decide (nq = 0) || false) && !(false && decide (nq = 0) && decide (p.pr.toNat = 0))
    && (decide (p.pr.toNat = 0) || (decide (60 ≤ p.pr.toNat) && decide (p.pr.toNat ≤ 63) && false)) && (if false = true then decide (64 ≤ p.fi.toNat) && decide (p.fi.toNat ≤ 126) else decide (p.fi.toNat = 0)) && texB p.tx && (decide (p.tx.size = 0) || false)) by
    unfold mayS
    rw [if_neg (by omega), hbad, g1, g3, g5, g6, g7.1, g7.2, g9, u8_zero, u8_zero, nil_len, h1, h2]
    rw [if_neg (by decide)]
    cases p.utf <;> simp)
  have hru : Rd w au (cB p.utf) := by obtain ⟨A, c, he, _, h⟩ := hr.1; cases he; exact h
  have HRU := Lib.hid hru
  have HRQ := Lib.hid hr.2
  have H1 := Lib.hid h1
  have HS := Lib.hid hi
  have HT := Lib.hid ht
  have HUL := Lib.hid hu
  have HQL := Lib.hid (show p.ps.length ≤ 1000000 by omega)
  have G1 := Lib.hid g1
  have G2 := Lib.hid g2
  have G3 := Lib.hid g3
  have G4 := Lib.hid g4
  rw [HB.out]
  clear HB hru hr h1 h2 hi ht hst g5 g6 g7 g9 g1 g2 g3 g4
  obtain ⟨st, utf, pr, fi, pp, it, tx, bad⟩ := p
  unfold cS
  dsimp only at *
  subst hbad
  have HRI := fun W (hb : Below w.heap.size w W) => Lib.hid (rright_any au cu nu utf H1.out.symm W (HRU.out.below hb) (by rw [← H1.out]; exact HUL.out))
  have HCK := fun W (hb : Below w.heap.size w W) => Lib.hid (rcheck_any (.slice aq nq cq) pp W (HRQ.out.keep hb) HQL.out)
  have HSG := fun W => Lib.hid (signs_any it 0 0 W HS.out)
  have HTX := fun W => Lib.hid (text_any tx W HT.out)
  have hck : (chkV pp != 0) = isBad pp := by unfold chkV; cases isBad pp <;> rfl
  have t2 := str_eq0 tx
  have n2 := str_nil tx
  unfold sz0 at t2
  clear HRU HRQ H1 HS HT HUL HQL
  generalize (utf.isEmpty || preB utf) = rb at HRI ⊢
  generalize chkV pp = ck at HCK hck
  generalize isBad pp = kb at hck ⊢
  generalize sigB it 0 0 = sb at HSG ⊢
  generalize texB tx = tb at HTX ⊢
  generalize pr.toNat = a
  generalize fi.toNat = b
  generalize tx.size = d at t2 n2 ⊢
  have hb1 := below_box w (.cells #[.int .i64 st, .slice au nu cu, .int .u8 (a : Int), .int .u8 (b : Int), .slice aq nq cq, .string it, .string tx, .bool false] 25)
  have hx := Box.new w #[.int .i64 st, .slice au nu cu, .int .u8 (a : Int), .int .u8 (b : Int), .slice aq nq cq, .string it, .string tx, .bool false] 25
  go_enter Tryz.func21, Tryz.ntmps21
  go_upto_region 1 with fail
  generalize w.alloc (.cells #[.int .i64 st, .slice au nu cu, .int .u8 (a : Int), .int .u8 (b : Int), .slice aq nq cq, .string it, .string tx, .bool false] 25) = w1 at hb1 hx ⊢
  have HK := Lib.hid (show ∀ W, Below w1.heap.size w1 W → W.cell? ⟨w.heap.size, 0, none⟩ = some (.int .i64 st) ∧ W.cell? ⟨w.heap.size, 1, none⟩ = some (.slice au nu cu) ∧ W.cell? ⟨w.heap.size, 2, none⟩ = some (.int .u8 (a : Int)) ∧ W.cell? ⟨w.heap.size, 3, none⟩ = some (.int .u8 (b : Int)) ∧ W.cell? ⟨w.heap.size, 4, none⟩ = some (.slice aq nq cq) ∧ W.cell? ⟨w.heap.size, 5, none⟩ = some (.string it) ∧ W.cell? ⟨w.heap.size, 6, none⟩ = some (.string tx) ∧ W.cell? ⟨w.heap.size, 7, none⟩ = some (.bool false) from fun W hW =>
    ⟨(hx.keep hW).cell 0 _ rfl, (hx.keep hW).cell 1 _ rfl, (hx.keep hW).cell 2 _ rfl, (hx.keep hW).cell 3 _ rfl, (hx.keep hW).cell 4 _ rfl, (hx.keep hW).cell 5 _ rfl, (hx.keep hW).cell 6 _ rfl, (hx.keep hW).cell 7 _ rfl⟩)
  have HB1 := Lib.hid hb1
  have hB := Below.refl w1.heap.size w1
  obtain ⟨x0, x1, x2, x3, x4, x5, x6, x7⟩ := HK.out _ hB
  clear hb1 hx
  generalize w.heap.size = B0 at HK x0 x1 x2 x3 x4 x5 x6 x7 ⊢
  go_wp2_with (first
    | (go_at_call 43; refine (has_any _ _ 2 _ [11, 12] _ rfl (rd_lit _ [11, 12] _ _ rfl) (by decide)).mono ?_; rw [G1.out]; rintro e w' ⟨rfl, hb'⟩; have hB := up hB (up (below_box _ _) hb'); clear hb' x0 x1 x2 x3 x4 x5 x6 x7; obtain ⟨x0, x1, x2, x3, x4, x5, x6, x7⟩ := HK.out _ hB)
    | (go_at_call 43; refine (has_any _ _ 2 _ [5, 10] _ rfl (rd_lit _ [5, 10] _ _ rfl) (by decide)).mono ?_; rw [G2.out]; rintro e w' ⟨rfl, hb'⟩; have hB := up hB (up (below_box _ _) hb'); clear hb' x0 x1 x2 x3 x4 x5 x6 x7; obtain ⟨x0, x1, x2, x3, x4, x5, x6, x7⟩ := HK.out _ hB)
    | (go_at_call 43; refine (has_any _ _ 2 _ [4, 9] _ rfl (rd_lit _ [4, 9] _ _ rfl) (by decide)).mono ?_; rw [G3.out]; rintro e w' ⟨rfl, hb'⟩; have hB := up hB (up (below_box _ _) hb'); clear hb' x0 x1 x2 x3 x4 x5 x6 x7; obtain ⟨x0, x1, x2, x3, x4, x5, x6, x7⟩ := HK.out _ hB)
    | (go_at_call 43; refine (has_any _ _ 2 _ [6, 7] _ rfl (rd_lit _ [6, 7] _ _ rfl) (by decide)).mono ?_; rw [G4.out]; rintro e w' ⟨rfl, hb'⟩; have hB := up hB (up (below_box _ _) hb'); clear hb' x0 x1 x2 x3 x4 x5 x6 x7; obtain ⟨x0, x1, x2, x3, x4, x5, x6, x7⟩ := HK.out _ hB)
    | (go_at_call 44; refine (HRI _ (up HB1.out hB)).out.mono ?_; rintro e w' ⟨rfl, hb'⟩; have hB := up hB hb'; clear hb' x0 x1 x2 x3 x4 x5 x6 x7; obtain ⟨x0, x1, x2, x3, x4, x5, x6, x7⟩ := HK.out _ hB)
    | (go_at_call 45; refine (HCK _ (up HB1.out hB)).out.mono ?_; rintro e w' ⟨rfl, hb'⟩; have hB := up hB hb'; clear hb' x0 x1 x2 x3 x4 x5 x6 x7; obtain ⟨x0, x1, x2, x3, x4, x5, x6, x7⟩ := HK.out _ hB)
    | (go_at_call 46; refine (HSG _).out.mono ?_; rintro e w' ⟨rfl, hb'⟩; have hB := up hB hb'; clear hb' x0 x1 x2 x3 x4 x5 x6 x7; obtain ⟨x0, x1, x2, x3, x4, x5, x6, x7⟩ := HK.out _ hB)
    | (go_at_call 47; refine (HTX _).out.mono ?_; rintro e w' ⟨rfl, hb'⟩; have hB := up hB hb'; clear hb' x0 x1 x2 x3 x4 x5 x6 x7; obtain ⟨x0, x1, x2, x3, x4, x5, x6, x7⟩ := HK.out _ hB))
  all_goals
    go_ret
    refine ⟨?_, up HB1.out hB⟩
    clear HRI HCK HSG HTX HK HB1 G1 G2 G3 G4 hB x0 x1 x2 x3 x4 x5 x6 x7
    refine congrArg (fun z => Ending.returned (Value.bool z)) ?_
    first
      | (simp_all; done)
      | (simp_all; omega)
      | (simp_all; intros; omega)
end Go.Proofs.YtmboekpomjgnnaaGreatDoor.Sta

namespace Go.Proofs.YtmboekpomjgnnaaGreatDoor.Sta
open Go.RowKit Utf Par

set_option maxRecDepth 100000 in
set_option maxHeartbeats 8000000 in
theorem may_n (p : PS) (au aq : Option Addr) (nu cu nq cq : Nat) (w : World) (hr : RS w (.slice au nu cu) (.slice aq nq cq) p) (h1 : nu = p.utf.length) (h2 : nq = p.ps.length) (hu : nu ≤ 1000000) (hq : nq ≤ 1000000) (hi : p.it.size ≤ 1000000) (ht : p.tx.size ≤ 1000000) (hbad : p.bad = false) (hst : p.st = 1 ∨ p.st = 3 ∨ p.st = 8 ∨ p.st = 13 ∨ p.st = 14) :
    Calls Tryz.prog 21 #[.agg (cS p (.slice au nu cu) (.slice aq nq cq))] w fun e w' => e = .returned (.bool (mayS p)) ∧ Below w.heap.size w w' := by
  have g1 : hasB p.st [11, 12] = false := by rcases hst with h | h | h | h | h <;> rw [h] <;> rfl
  have g2 : hasB p.st [5, 10] = false := by rcases hst with h | h | h | h | h <;> rw [h] <;> rfl
  have g3 : hasB p.st [4, 9] = false := by rcases hst with h | h | h | h | h <;> rw [h] <;> rfl
  have g4 : hasB p.st [6, 7] = false := by rcases hst with h | h | h | h | h <;> rw [h] <;> rfl
  have g5 : hasB p.st [4, 5, 9, 10, 11, 12] = false := by rcases hst with h | h | h | h | h <;> rw [h] <;> rfl
  have g6 : hasB p.st [6, 7, 11, 12] = false := by rcases hst with h | h | h | h | h <;> rw [h] <;> rfl
  have g7 : leastS p.st = 0 ∧ mostS p.st = 0 := by rcases hst with h | h | h | h | h <;> rw [h] <;> exact ⟨rfl, rfl⟩
  have g8 : 0 ≤ p.st ∧ p.st < 15 := by rcases hst with h | h | h | h | h <;> rw [h] <;> decide
  have g9 : decide (p.st = 0) = false := by rcases hst with h | h | h | h | h <;> rw [h] <;> rfl
  have c2 : (p.st == 2) = false := by rcases hst with h | h | h | h | h <;> rw [h] <;> rfl
  have c0 : (p.st != 0) = true := by rcases hst with h | h | h | h | h <;> rw [h] <;> rfl
  have c8 : decide (p.st < 0) = false := decide_eq_false (by omega)
  have c9 : decide (15 ≤ p.st) = false := decide_eq_false (by omega)
  have HB := Lib.hid (show mayS p = ((p.utf.isEmpty || preB p.utf) && (decide (nu = 0) || false) && !isBad p.ps && sigB p.it 0 0 && (decide (nq = 0) || false) && !(false && decide (nq = 0) && decide (p.pr.toNat = 0))
    && (decide (p.pr.toNat = 0) || (decide (60 ≤ p.pr.toNat) && decide (p.pr.toNat ≤ 63) && false)) && (if false = true then decide (64 ≤ p.fi.toNat) && decide (p.fi.toNat ≤ 126) else decide (p.fi.toNat = 0)) && texB p.tx && (decide (p.tx.size = 0) || false)) by
    unfold mayS
    rw [if_neg (by omega), hbad, g1, g3, g5, g6, g7.1, g7.2, g9, u8_zero, u8_zero, nil_len, h1, h2]
    rw [if_neg (by decide)]
    cases p.utf <;> simp)
  have hru : Rd w au (cB p.utf) := by obtain ⟨A, c, he, _, h⟩ := hr.1; cases he; exact h
  have HRU := Lib.hid hru
  have HRQ := Lib.hid hr.2
  have H1 := Lib.hid h1
  have HS := Lib.hid hi
  have HT := Lib.hid ht
  have HUL := Lib.hid hu
  have HQL := Lib.hid (show p.ps.length ≤ 1000000 by omega)
  have G1 := Lib.hid g1
  have G2 := Lib.hid g2
  have G3 := Lib.hid g3
  have G4 := Lib.hid g4
  rw [HB.out]
  clear HB hru hr h1 h2 hi ht hst g5 g6 g7 g9 g1 g2 g3 g4
  obtain ⟨st, utf, pr, fi, pp, it, tx, bad⟩ := p
  unfold cS
  dsimp only at *
  subst hbad
  have HRI := fun W (hb : Below w.heap.size w W) => Lib.hid (rright_any au cu nu utf H1.out.symm W (HRU.out.below hb) (by rw [← H1.out]; exact HUL.out))
  have HCK := fun W (hb : Below w.heap.size w W) => Lib.hid (rcheck_any (.slice aq nq cq) pp W (HRQ.out.keep hb) HQL.out)
  have HSG := fun W => Lib.hid (signs_any it 0 0 W HS.out)
  have HTX := fun W => Lib.hid (text_any tx W HT.out)
  have hck : (chkV pp != 0) = isBad pp := by unfold chkV; cases isBad pp <;> rfl
  have t2 := str_eq0 tx
  have n2 := str_nil tx
  unfold sz0 at t2
  clear HRU HRQ H1 HS HT HUL HQL
  generalize (utf.isEmpty || preB utf) = rb at HRI ⊢
  generalize chkV pp = ck at HCK hck
  generalize isBad pp = kb at hck ⊢
  generalize sigB it 0 0 = sb at HSG ⊢
  generalize texB tx = tb at HTX ⊢
  generalize pr.toNat = a
  generalize fi.toNat = b
  generalize tx.size = d at t2 n2 ⊢
  have hb1 := below_box w (.cells #[.int .i64 st, .slice au nu cu, .int .u8 (a : Int), .int .u8 (b : Int), .slice aq nq cq, .string it, .string tx, .bool false] 25)
  have hx := Box.new w #[.int .i64 st, .slice au nu cu, .int .u8 (a : Int), .int .u8 (b : Int), .slice aq nq cq, .string it, .string tx, .bool false] 25
  go_enter Tryz.func21, Tryz.ntmps21
  go_upto_region 1 with fail
  generalize w.alloc (.cells #[.int .i64 st, .slice au nu cu, .int .u8 (a : Int), .int .u8 (b : Int), .slice aq nq cq, .string it, .string tx, .bool false] 25) = w1 at hb1 hx ⊢
  have HK := Lib.hid (show ∀ W, Below w1.heap.size w1 W → W.cell? ⟨w.heap.size, 0, none⟩ = some (.int .i64 st) ∧ W.cell? ⟨w.heap.size, 1, none⟩ = some (.slice au nu cu) ∧ W.cell? ⟨w.heap.size, 2, none⟩ = some (.int .u8 (a : Int)) ∧ W.cell? ⟨w.heap.size, 3, none⟩ = some (.int .u8 (b : Int)) ∧ W.cell? ⟨w.heap.size, 4, none⟩ = some (.slice aq nq cq) ∧ W.cell? ⟨w.heap.size, 5, none⟩ = some (.string it) ∧ W.cell? ⟨w.heap.size, 6, none⟩ = some (.string tx) ∧ W.cell? ⟨w.heap.size, 7, none⟩ = some (.bool false) from fun W hW =>
    ⟨(hx.keep hW).cell 0 _ rfl, (hx.keep hW).cell 1 _ rfl, (hx.keep hW).cell 2 _ rfl, (hx.keep hW).cell 3 _ rfl, (hx.keep hW).cell 4 _ rfl, (hx.keep hW).cell 5 _ rfl, (hx.keep hW).cell 6 _ rfl, (hx.keep hW).cell 7 _ rfl⟩)
  have HB1 := Lib.hid hb1
  have hB := Below.refl w1.heap.size w1
  obtain ⟨x0, x1, x2, x3, x4, x5, x6, x7⟩ := HK.out _ hB
  clear hb1 hx
  generalize w.heap.size = B0 at HK x0 x1 x2 x3 x4 x5 x6 x7 ⊢
  go_wp2_with (first
    | (go_at_call 43; refine (has_any _ _ 2 _ [11, 12] _ rfl (rd_lit _ [11, 12] _ _ rfl) (by decide)).mono ?_; rw [G1.out]; rintro e w' ⟨rfl, hb'⟩; have hB := up hB (up (below_box _ _) hb'); clear hb' x0 x1 x2 x3 x4 x5 x6 x7; obtain ⟨x0, x1, x2, x3, x4, x5, x6, x7⟩ := HK.out _ hB)
    | (go_at_call 43; refine (has_any _ _ 2 _ [5, 10] _ rfl (rd_lit _ [5, 10] _ _ rfl) (by decide)).mono ?_; rw [G2.out]; rintro e w' ⟨rfl, hb'⟩; have hB := up hB (up (below_box _ _) hb'); clear hb' x0 x1 x2 x3 x4 x5 x6 x7; obtain ⟨x0, x1, x2, x3, x4, x5, x6, x7⟩ := HK.out _ hB)
    | (go_at_call 43; refine (has_any _ _ 2 _ [4, 9] _ rfl (rd_lit _ [4, 9] _ _ rfl) (by decide)).mono ?_; rw [G3.out]; rintro e w' ⟨rfl, hb'⟩; have hB := up hB (up (below_box _ _) hb'); clear hb' x0 x1 x2 x3 x4 x5 x6 x7; obtain ⟨x0, x1, x2, x3, x4, x5, x6, x7⟩ := HK.out _ hB)
    | (go_at_call 43; refine (has_any _ _ 2 _ [6, 7] _ rfl (rd_lit _ [6, 7] _ _ rfl) (by decide)).mono ?_; rw [G4.out]; rintro e w' ⟨rfl, hb'⟩; have hB := up hB (up (below_box _ _) hb'); clear hb' x0 x1 x2 x3 x4 x5 x6 x7; obtain ⟨x0, x1, x2, x3, x4, x5, x6, x7⟩ := HK.out _ hB)
    | (go_at_call 44; refine (HRI _ (up HB1.out hB)).out.mono ?_; rintro e w' ⟨rfl, hb'⟩; have hB := up hB hb'; clear hb' x0 x1 x2 x3 x4 x5 x6 x7; obtain ⟨x0, x1, x2, x3, x4, x5, x6, x7⟩ := HK.out _ hB)
    | (go_at_call 45; refine (HCK _ (up HB1.out hB)).out.mono ?_; rintro e w' ⟨rfl, hb'⟩; have hB := up hB hb'; clear hb' x0 x1 x2 x3 x4 x5 x6 x7; obtain ⟨x0, x1, x2, x3, x4, x5, x6, x7⟩ := HK.out _ hB)
    | (go_at_call 46; refine (HSG _).out.mono ?_; rintro e w' ⟨rfl, hb'⟩; have hB := up hB hb'; clear hb' x0 x1 x2 x3 x4 x5 x6 x7; obtain ⟨x0, x1, x2, x3, x4, x5, x6, x7⟩ := HK.out _ hB)
    | (go_at_call 47; refine (HTX _).out.mono ?_; rintro e w' ⟨rfl, hb'⟩; have hB := up hB hb'; clear hb' x0 x1 x2 x3 x4 x5 x6 x7; obtain ⟨x0, x1, x2, x3, x4, x5, x6, x7⟩ := HK.out _ hB))
  all_goals
    go_ret
    refine ⟨?_, up HB1.out hB⟩
    clear HRI HCK HSG HTX HK HB1 G1 G2 G3 G4 hB x0 x1 x2 x3 x4 x5 x6 x7
    refine congrArg (fun z => Ending.returned (Value.bool z)) ?_
    first
      | (simp_all; done)
      | (simp_all; omega)
      | (simp_all; intros; omega)
end Go.Proofs.YtmboekpomjgnnaaGreatDoor.Sta

namespace Go.Proofs.YtmboekpomjgnnaaGreatDoor.Sta
open Go.RowKit Utf Par

set_option maxRecDepth 100000 in
set_option maxHeartbeats 8000000 in
theorem may_s (p : PS) (au aq : Option Addr) (nu cu nq cq : Nat) (w : World) (hr : RS w (.slice au nu cu) (.slice aq nq cq) p) (h1 : nu = p.utf.length) (h2 : nq = p.ps.length) (hu : nu ≤ 1000000) (hq : nq ≤ 1000000) (hi : p.it.size ≤ 1000000) (ht : p.tx.size ≤ 1000000) (hbad : p.bad = false) (hst : p.st = 2) :
    Calls Tryz.prog 21 #[.agg (cS p (.slice au nu cu) (.slice aq nq cq))] w fun e w' => e = .returned (.bool (mayS p)) ∧ Below w.heap.size w w' := by
  have g1 : hasB p.st [11, 12] = false := by rw [hst]; rfl
  have g2 : hasB p.st [5, 10] = false := by rw [hst]; rfl
  have g3 : hasB p.st [4, 9] = false := by rw [hst]; rfl
  have g4 : hasB p.st [6, 7] = false := by rw [hst]; rfl
  have g5 : hasB p.st [4, 5, 9, 10, 11, 12] = false := by rw [hst]; rfl
  have g6 : hasB p.st [6, 7, 11, 12] = false := by rw [hst]; rfl
  have g7 : leastS p.st = 1 ∧ mostS p.st = 2 := by rw [hst]; exact ⟨rfl, rfl⟩
  have g8 : 0 ≤ p.st ∧ p.st < 15 := by rw [hst]; decide
  have g9 : decide (p.st = 0) = false := by rw [hst]; rfl
  have c2 : (p.st == 2) = true := by rw [hst]; rfl
  have c0 : (p.st != 0) = true := by rw [hst]; rfl
  have c8 : decide (p.st < 0) = false := decide_eq_false (by omega)
  have c9 : decide (15 ≤ p.st) = false := decide_eq_false (by omega)
  have HB := Lib.hid (show mayS p = ((p.utf.isEmpty || preB p.utf) && (decide (nu = 0) || false) && !isBad p.ps && sigB p.it 1 2 && (decide (nq = 0) || false) && !(false && decide (nq = 0) && decide (p.pr.toNat = 0))
    && (decide (p.pr.toNat = 0) || (decide (60 ≤ p.pr.toNat) && decide (p.pr.toNat ≤ 63) && false)) && (if false = true then decide (64 ≤ p.fi.toNat) && decide (p.fi.toNat ≤ 126) else decide (p.fi.toNat = 0)) && texB p.tx && (decide (p.tx.size = 0) || false)) by
    unfold mayS
    rw [if_neg (by omega), hbad, g1, g3, g5, g6, g7.1, g7.2, g9, u8_zero, u8_zero, nil_len, h1, h2]
    rw [if_neg (by decide)]
    cases p.utf <;> simp)
  have hru : Rd w au (cB p.utf) := by obtain ⟨A, c, he, _, h⟩ := hr.1; cases he; exact h
  have HRU := Lib.hid hru
  have HRQ := Lib.hid hr.2
  have H1 := Lib.hid h1
  have HS := Lib.hid hi
  have HT := Lib.hid ht
  have HUL := Lib.hid hu
  have HQL := Lib.hid (show p.ps.length ≤ 1000000 by omega)
  have G1 := Lib.hid g1
  have G2 := Lib.hid g2
  have G3 := Lib.hid g3
  have G4 := Lib.hid g4
  rw [HB.out]
  clear HB hru hr h1 h2 hi ht hst g5 g6 g7 g9 g1 g2 g3 g4
  obtain ⟨st, utf, pr, fi, pp, it, tx, bad⟩ := p
  unfold cS
  dsimp only at *
  subst hbad
  have HRI := fun W (hb : Below w.heap.size w W) => Lib.hid (rright_any au cu nu utf H1.out.symm W (HRU.out.below hb) (by rw [← H1.out]; exact HUL.out))
  have HCK := fun W (hb : Below w.heap.size w W) => Lib.hid (rcheck_any (.slice aq nq cq) pp W (HRQ.out.keep hb) HQL.out)
  have HSG := fun W => Lib.hid (signs_any it 1 2 W HS.out)
  have HTX := fun W => Lib.hid (text_any tx W HT.out)
  have hck : (chkV pp != 0) = isBad pp := by unfold chkV; cases isBad pp <;> rfl
  have t2 := str_eq0 tx
  have n2 := str_nil tx
  unfold sz0 at t2
  clear HRU HRQ H1 HS HT HUL HQL
  generalize (utf.isEmpty || preB utf) = rb at HRI ⊢
  generalize chkV pp = ck at HCK hck
  generalize isBad pp = kb at hck ⊢
  generalize sigB it 1 2 = sb at HSG ⊢
  generalize texB tx = tb at HTX ⊢
  generalize pr.toNat = a
  generalize fi.toNat = b
  generalize tx.size = d at t2 n2 ⊢
  have hb1 := below_box w (.cells #[.int .i64 st, .slice au nu cu, .int .u8 (a : Int), .int .u8 (b : Int), .slice aq nq cq, .string it, .string tx, .bool false] 25)
  have hx := Box.new w #[.int .i64 st, .slice au nu cu, .int .u8 (a : Int), .int .u8 (b : Int), .slice aq nq cq, .string it, .string tx, .bool false] 25
  go_enter Tryz.func21, Tryz.ntmps21
  go_upto_region 1 with fail
  generalize w.alloc (.cells #[.int .i64 st, .slice au nu cu, .int .u8 (a : Int), .int .u8 (b : Int), .slice aq nq cq, .string it, .string tx, .bool false] 25) = w1 at hb1 hx ⊢
  have HK := Lib.hid (show ∀ W, Below w1.heap.size w1 W → W.cell? ⟨w.heap.size, 0, none⟩ = some (.int .i64 st) ∧ W.cell? ⟨w.heap.size, 1, none⟩ = some (.slice au nu cu) ∧ W.cell? ⟨w.heap.size, 2, none⟩ = some (.int .u8 (a : Int)) ∧ W.cell? ⟨w.heap.size, 3, none⟩ = some (.int .u8 (b : Int)) ∧ W.cell? ⟨w.heap.size, 4, none⟩ = some (.slice aq nq cq) ∧ W.cell? ⟨w.heap.size, 5, none⟩ = some (.string it) ∧ W.cell? ⟨w.heap.size, 6, none⟩ = some (.string tx) ∧ W.cell? ⟨w.heap.size, 7, none⟩ = some (.bool false) from fun W hW =>
    ⟨(hx.keep hW).cell 0 _ rfl, (hx.keep hW).cell 1 _ rfl, (hx.keep hW).cell 2 _ rfl, (hx.keep hW).cell 3 _ rfl, (hx.keep hW).cell 4 _ rfl, (hx.keep hW).cell 5 _ rfl, (hx.keep hW).cell 6 _ rfl, (hx.keep hW).cell 7 _ rfl⟩)
  have HB1 := Lib.hid hb1
  have hB := Below.refl w1.heap.size w1
  obtain ⟨x0, x1, x2, x3, x4, x5, x6, x7⟩ := HK.out _ hB
  clear hb1 hx
  generalize w.heap.size = B0 at HK x0 x1 x2 x3 x4 x5 x6 x7 ⊢
  go_wp2_with (first
    | (go_at_call 43; refine (has_any _ _ 2 _ [11, 12] _ rfl (rd_lit _ [11, 12] _ _ rfl) (by decide)).mono ?_; rw [G1.out]; rintro e w' ⟨rfl, hb'⟩; have hB := up hB (up (below_box _ _) hb'); clear hb' x0 x1 x2 x3 x4 x5 x6 x7; obtain ⟨x0, x1, x2, x3, x4, x5, x6, x7⟩ := HK.out _ hB)
    | (go_at_call 43; refine (has_any _ _ 2 _ [5, 10] _ rfl (rd_lit _ [5, 10] _ _ rfl) (by decide)).mono ?_; rw [G2.out]; rintro e w' ⟨rfl, hb'⟩; have hB := up hB (up (below_box _ _) hb'); clear hb' x0 x1 x2 x3 x4 x5 x6 x7; obtain ⟨x0, x1, x2, x3, x4, x5, x6, x7⟩ := HK.out _ hB)
    | (go_at_call 43; refine (has_any _ _ 2 _ [4, 9] _ rfl (rd_lit _ [4, 9] _ _ rfl) (by decide)).mono ?_; rw [G3.out]; rintro e w' ⟨rfl, hb'⟩; have hB := up hB (up (below_box _ _) hb'); clear hb' x0 x1 x2 x3 x4 x5 x6 x7; obtain ⟨x0, x1, x2, x3, x4, x5, x6, x7⟩ := HK.out _ hB)
    | (go_at_call 43; refine (has_any _ _ 2 _ [6, 7] _ rfl (rd_lit _ [6, 7] _ _ rfl) (by decide)).mono ?_; rw [G4.out]; rintro e w' ⟨rfl, hb'⟩; have hB := up hB (up (below_box _ _) hb'); clear hb' x0 x1 x2 x3 x4 x5 x6 x7; obtain ⟨x0, x1, x2, x3, x4, x5, x6, x7⟩ := HK.out _ hB)
    | (go_at_call 44; refine (HRI _ (up HB1.out hB)).out.mono ?_; rintro e w' ⟨rfl, hb'⟩; have hB := up hB hb'; clear hb' x0 x1 x2 x3 x4 x5 x6 x7; obtain ⟨x0, x1, x2, x3, x4, x5, x6, x7⟩ := HK.out _ hB)
    | (go_at_call 45; refine (HCK _ (up HB1.out hB)).out.mono ?_; rintro e w' ⟨rfl, hb'⟩; have hB := up hB hb'; clear hb' x0 x1 x2 x3 x4 x5 x6 x7; obtain ⟨x0, x1, x2, x3, x4, x5, x6, x7⟩ := HK.out _ hB)
    | (go_at_call 46; refine (HSG _).out.mono ?_; rintro e w' ⟨rfl, hb'⟩; have hB := up hB hb'; clear hb' x0 x1 x2 x3 x4 x5 x6 x7; obtain ⟨x0, x1, x2, x3, x4, x5, x6, x7⟩ := HK.out _ hB)
    | (go_at_call 47; refine (HTX _).out.mono ?_; rintro e w' ⟨rfl, hb'⟩; have hB := up hB hb'; clear hb' x0 x1 x2 x3 x4 x5 x6 x7; obtain ⟨x0, x1, x2, x3, x4, x5, x6, x7⟩ := HK.out _ hB))
  all_goals
    go_ret
    refine ⟨?_, up HB1.out hB⟩
    clear HRI HCK HSG HTX HK HB1 G1 G2 G3 G4 hB x0 x1 x2 x3 x4 x5 x6 x7
    refine congrArg (fun z => Ending.returned (Value.bool z)) ?_
    first
      | (simp_all; done)
      | (simp_all; omega)
      | (simp_all; intros; omega)
end Go.Proofs.YtmboekpomjgnnaaGreatDoor.Sta

namespace Go.Proofs.YtmboekpomjgnnaaGreatDoor.Sta
open Go.RowKit Utf Par

set_option maxRecDepth 100000 in
set_option maxHeartbeats 8000000 in
theorem may_o (p : PS) (au aq : Option Addr) (nu cu nq cq : Nat) (w : World) (hr : RS w (.slice au nu cu) (.slice aq nq cq) p) (h1 : nu = p.utf.length) (h2 : nq = p.ps.length) (hu : nu ≤ 1000000) (hq : nq ≤ 1000000) (hi : p.it.size ≤ 1000000) (ht : p.tx.size ≤ 1000000) (hbad : p.bad = false) (hst : p.st = 6 ∨ p.st = 7) :
    Calls Tryz.prog 21 #[.agg (cS p (.slice au nu cu) (.slice aq nq cq))] w fun e w' => e = .returned (.bool (mayS p)) ∧ Below w.heap.size w w' := by
  have g1 : hasB p.st [11, 12] = false := by rcases hst with h | h <;> rw [h] <;> rfl
  have g2 : hasB p.st [5, 10] = false := by rcases hst with h | h <;> rw [h] <;> rfl
  have g3 : hasB p.st [4, 9] = false := by rcases hst with h | h <;> rw [h] <;> rfl
  have g4 : hasB p.st [6, 7] = true := by rcases hst with h | h <;> rw [h] <;> rfl
  have g5 : hasB p.st [4, 5, 9, 10, 11, 12] = false := by rcases hst with h | h <;> rw [h] <;> rfl
  have g6 : hasB p.st [6, 7, 11, 12] = true := by rcases hst with h | h <;> rw [h] <;> rfl
  have g7 : leastS p.st = 0 ∧ mostS p.st = 0 := by rcases hst with h | h <;> rw [h] <;> exact ⟨rfl, rfl⟩
  have g8 : 0 ≤ p.st ∧ p.st < 15 := by rcases hst with h | h <;> rw [h] <;> decide
  have g9 : decide (p.st = 0) = false := by rcases hst with h | h <;> rw [h] <;> rfl
  have c2 : (p.st == 2) = false := by rcases hst with h | h <;> rw [h] <;> rfl
  have c0 : (p.st != 0) = true := by rcases hst with h | h <;> rw [h] <;> rfl
  have c8 : decide (p.st < 0) = false := decide_eq_false (by omega)
  have c9 : decide (15 ≤ p.st) = false := decide_eq_false (by omega)
  have HB := Lib.hid (show mayS p = ((p.utf.isEmpty || preB p.utf) && (decide (nu = 0) || false) && !isBad p.ps && sigB p.it 0 0 && (decide (nq = 0) || false) && !(false && decide (nq = 0) && decide (p.pr.toNat = 0))
    && (decide (p.pr.toNat = 0) || (decide (60 ≤ p.pr.toNat) && decide (p.pr.toNat ≤ 63) && false)) && (if false = true then decide (64 ≤ p.fi.toNat) && decide (p.fi.toNat ≤ 126) else decide (p.fi.toNat = 0)) && texB p.tx && (decide (p.tx.size = 0) || true)) by
    unfold mayS
    rw [if_neg (by omega), hbad, g1, g3, g5, g6, g7.1, g7.2, g9, u8_zero, u8_zero, nil_len, h1, h2]
    rw [if_neg (by decide)]
    cases p.utf <;> simp)
  have hru : Rd w au (cB p.utf) := by obtain ⟨A, c, he, _, h⟩ := hr.1; cases he; exact h
  have HRU := Lib.hid hru
  have HRQ := Lib.hid hr.2
  have H1 := Lib.hid h1
  have HS := Lib.hid hi
  have HT := Lib.hid ht
  have HUL := Lib.hid hu
  have HQL := Lib.hid (show p.ps.length ≤ 1000000 by omega)
  have G1 := Lib.hid g1
  have G2 := Lib.hid g2
  have G3 := Lib.hid g3
  have G4 := Lib.hid g4
  rw [HB.out]
  clear HB hru hr h1 h2 hi ht hst g5 g6 g7 g9 g1 g2 g3 g4
  obtain ⟨st, utf, pr, fi, pp, it, tx, bad⟩ := p
  unfold cS
  dsimp only at *
  subst hbad
  have HRI := fun W (hb : Below w.heap.size w W) => Lib.hid (rright_any au cu nu utf H1.out.symm W (HRU.out.below hb) (by rw [← H1.out]; exact HUL.out))
  have HCK := fun W (hb : Below w.heap.size w W) => Lib.hid (rcheck_any (.slice aq nq cq) pp W (HRQ.out.keep hb) HQL.out)
  have HSG := fun W => Lib.hid (signs_any it 0 0 W HS.out)
  have HTX := fun W => Lib.hid (text_any tx W HT.out)
  have hck : (chkV pp != 0) = isBad pp := by unfold chkV; cases isBad pp <;> rfl
  have t2 := str_eq0 tx
  have n2 := str_nil tx
  unfold sz0 at t2
  clear HRU HRQ H1 HS HT HUL HQL
  generalize (utf.isEmpty || preB utf) = rb at HRI ⊢
  generalize chkV pp = ck at HCK hck
  generalize isBad pp = kb at hck ⊢
  generalize sigB it 0 0 = sb at HSG ⊢
  generalize texB tx = tb at HTX ⊢
  generalize pr.toNat = a
  generalize fi.toNat = b
  generalize tx.size = d at t2 n2 ⊢
  have hb1 := below_box w (.cells #[.int .i64 st, .slice au nu cu, .int .u8 (a : Int), .int .u8 (b : Int), .slice aq nq cq, .string it, .string tx, .bool false] 25)
  have hx := Box.new w #[.int .i64 st, .slice au nu cu, .int .u8 (a : Int), .int .u8 (b : Int), .slice aq nq cq, .string it, .string tx, .bool false] 25
  go_enter Tryz.func21, Tryz.ntmps21
  go_upto_region 1 with fail
  generalize w.alloc (.cells #[.int .i64 st, .slice au nu cu, .int .u8 (a : Int), .int .u8 (b : Int), .slice aq nq cq, .string it, .string tx, .bool false] 25) = w1 at hb1 hx ⊢
  have HK := Lib.hid (show ∀ W, Below w1.heap.size w1 W → W.cell? ⟨w.heap.size, 0, none⟩ = some (.int .i64 st) ∧ W.cell? ⟨w.heap.size, 1, none⟩ = some (.slice au nu cu) ∧ W.cell? ⟨w.heap.size, 2, none⟩ = some (.int .u8 (a : Int)) ∧ W.cell? ⟨w.heap.size, 3, none⟩ = some (.int .u8 (b : Int)) ∧ W.cell? ⟨w.heap.size, 4, none⟩ = some (.slice aq nq cq) ∧ W.cell? ⟨w.heap.size, 5, none⟩ = some (.string it) ∧ W.cell? ⟨w.heap.size, 6, none⟩ = some (.string tx) ∧ W.cell? ⟨w.heap.size, 7, none⟩ = some (.bool false) from fun W hW =>
    ⟨(hx.keep hW).cell 0 _ rfl, (hx.keep hW).cell 1 _ rfl, (hx.keep hW).cell 2 _ rfl, (hx.keep hW).cell 3 _ rfl, (hx.keep hW).cell 4 _ rfl, (hx.keep hW).cell 5 _ rfl, (hx.keep hW).cell 6 _ rfl, (hx.keep hW).cell 7 _ rfl⟩)
  have HB1 := Lib.hid hb1
  have hB := Below.refl w1.heap.size w1
  obtain ⟨x0, x1, x2, x3, x4, x5, x6, x7⟩ := HK.out _ hB
  clear hb1 hx
  generalize w.heap.size = B0 at HK x0 x1 x2 x3 x4 x5 x6 x7 ⊢
  go_wp2_with (first
    | (go_at_call 43; refine (has_any _ _ 2 _ [11, 12] _ rfl (rd_lit _ [11, 12] _ _ rfl) (by decide)).mono ?_; rw [G1.out]; rintro e w' ⟨rfl, hb'⟩; have hB := up hB (up (below_box _ _) hb'); clear hb' x0 x1 x2 x3 x4 x5 x6 x7; obtain ⟨x0, x1, x2, x3, x4, x5, x6, x7⟩ := HK.out _ hB)
    | (go_at_call 43; refine (has_any _ _ 2 _ [5, 10] _ rfl (rd_lit _ [5, 10] _ _ rfl) (by decide)).mono ?_; rw [G2.out]; rintro e w' ⟨rfl, hb'⟩; have hB := up hB (up (below_box _ _) hb'); clear hb' x0 x1 x2 x3 x4 x5 x6 x7; obtain ⟨x0, x1, x2, x3, x4, x5, x6, x7⟩ := HK.out _ hB)
    | (go_at_call 43; refine (has_any _ _ 2 _ [4, 9] _ rfl (rd_lit _ [4, 9] _ _ rfl) (by decide)).mono ?_; rw [G3.out]; rintro e w' ⟨rfl, hb'⟩; have hB := up hB (up (below_box _ _) hb'); clear hb' x0 x1 x2 x3 x4 x5 x6 x7; obtain ⟨x0, x1, x2, x3, x4, x5, x6, x7⟩ := HK.out _ hB)
    | (go_at_call 43; refine (has_any _ _ 2 _ [6, 7] _ rfl (rd_lit _ [6, 7] _ _ rfl) (by decide)).mono ?_; rw [G4.out]; rintro e w' ⟨rfl, hb'⟩; have hB := up hB (up (below_box _ _) hb'); clear hb' x0 x1 x2 x3 x4 x5 x6 x7; obtain ⟨x0, x1, x2, x3, x4, x5, x6, x7⟩ := HK.out _ hB)
    | (go_at_call 44; refine (HRI _ (up HB1.out hB)).out.mono ?_; rintro e w' ⟨rfl, hb'⟩; have hB := up hB hb'; clear hb' x0 x1 x2 x3 x4 x5 x6 x7; obtain ⟨x0, x1, x2, x3, x4, x5, x6, x7⟩ := HK.out _ hB)
    | (go_at_call 45; refine (HCK _ (up HB1.out hB)).out.mono ?_; rintro e w' ⟨rfl, hb'⟩; have hB := up hB hb'; clear hb' x0 x1 x2 x3 x4 x5 x6 x7; obtain ⟨x0, x1, x2, x3, x4, x5, x6, x7⟩ := HK.out _ hB)
    | (go_at_call 46; refine (HSG _).out.mono ?_; rintro e w' ⟨rfl, hb'⟩; have hB := up hB hb'; clear hb' x0 x1 x2 x3 x4 x5 x6 x7; obtain ⟨x0, x1, x2, x3, x4, x5, x6, x7⟩ := HK.out _ hB)
    | (go_at_call 47; refine (HTX _).out.mono ?_; rintro e w' ⟨rfl, hb'⟩; have hB := up hB hb'; clear hb' x0 x1 x2 x3 x4 x5 x6 x7; obtain ⟨x0, x1, x2, x3, x4, x5, x6, x7⟩ := HK.out _ hB))
  all_goals
    go_ret
    refine ⟨?_, up HB1.out hB⟩
    clear HRI HCK HSG HTX HK HB1 G1 G2 G3 G4 hB x0 x1 x2 x3 x4 x5 x6 x7
    refine congrArg (fun z => Ending.returned (Value.bool z)) ?_
    first
      | (simp_all; done)
      | (simp_all; omega)
      | (simp_all; intros; omega)
end Go.Proofs.YtmboekpomjgnnaaGreatDoor.Sta

namespace Go.Proofs.YtmboekpomjgnnaaGreatDoor.Sta
open Go.RowKit Utf Par

set_option maxRecDepth 100000 in
set_option maxHeartbeats 8000000 in
theorem may_out (p : PS) (au aq : Option Addr) (nu cu nq cq : Nat) (w : World) (hst : p.st < 0 ∨ 15 ≤ p.st) :
    Calls Tryz.prog 21 #[.agg (cS p (.slice au nu cu) (.slice aq nq cq))] w fun e w' => e = .returned (.bool (mayS p)) ∧ Below w.heap.size w w' := by
  rw [show mayS p = false by unfold mayS; rw [if_pos hst]]
  obtain ⟨st, utf, pr, fi, pp, it, tx, bad⟩ := p
  unfold cS
  dsimp only at *
  rcases hst with h | h
  · have d1 : decide (st < 0) = true := decide_eq_true h
    go_enter Tryz.func21, Tryz.ntmps21
    go_wp2
    go_ret
    exact ⟨rfl, below_box _ _⟩
  · have d1 : decide (st < 0) = false := decide_eq_false (by omega)
    have d2 : decide (15 ≤ st) = true := decide_eq_true h
    go_enter Tryz.func21, Tryz.ntmps21
    go_wp2
    go_ret
    exact ⟨rfl, below_box _ _⟩
set_option maxRecDepth 100000 in
set_option maxHeartbeats 8000000 in
theorem rmay_bad (p : PS) (au aq : Option Addr) (nu cu nq cq : Nat) (w : World) (h1 : nu = p.utf.length) (h2 : nq = p.ps.length) (hbad : p.bad = true) (hst : ¬ (p.st < 0 ∨ 15 ≤ p.st)) :
    Calls Tryz.prog 21 #[.agg (cS p (.slice au nu cu) (.slice aq nq cq))] w fun e w' => e = .returned (.bool (mayS p)) ∧ Below w.heap.size w w' := by
  rw [show mayS p = (empB p && hasB p.st [2, 4, 5, 6, 7, 9, 10, 11, 12]) by unfold mayS; rw [if_neg hst, if_pos hbad]]
  have HE := fun W => Lib.hid (empty_any p au aq nu cu nq cq W h1 h2)
  clear h1 h2
  generalize empB p = eb at HE ⊢
  obtain ⟨st, utf, pr, fi, pp, it, tx, bad⟩ := p
  unfold cS at HE ⊢
  dsimp only at *
  subst hbad
  have d1 : decide (st < 0) = false := decide_eq_false (by omega)
  have d2 : decide (15 ≤ st) = false := decide_eq_false (by omega)
  cases eb
  · go_enter Tryz.func21, Tryz.ntmps21
    go_wp2_with (go_at_call 42; refine (HE _).out.mono ?_; rintro e w' ⟨rfl, hb⟩)
    go_ret
    exact ⟨rfl, up (below_box _ _) hb⟩
  · obtain ⟨hb0, hB0⟩ : ∃ x, x = hasB st [2, 4, 5, 6, 7, 9, 10, 11, 12] := ⟨_, rfl⟩
    rw [← hB0]
    go_enter Tryz.func21, Tryz.ntmps21
    go_wp2_with (first
      | (go_at_call 42; refine (HE _).out.mono ?_; rintro e w' ⟨rfl, hb⟩)
      | (go_at_call 43; refine (has_any _ _ 9 _ [2, 4, 5, 6, 7, 9, 10, 11, 12] _ rfl (rd_lit _ [2, 4, 5, 6, 7, 9, 10, 11, 12] _ _ rfl) (by decide)).mono ?_; rw [← hB0]; rintro e w'' ⟨rfl, hb'⟩))
    go_ret
    refine ⟨?_, up (up (below_box _ _) hb) (up (below_box _ _) hb')⟩
    rw [hB0]
    rfl
end Go.Proofs.YtmboekpomjgnnaaGreatDoor.Sta
