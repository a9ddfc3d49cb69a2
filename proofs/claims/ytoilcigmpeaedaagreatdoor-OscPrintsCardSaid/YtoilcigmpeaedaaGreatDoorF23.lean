/-
  OscF
-/
import Derived.Lib.AppendIntMem
import Derived.Lib.LaidTab
import Derived.Test.YtoilcigmpeaedaaGreatDoorF18
import Derived.Test.YtoilcigmpeaedaaGreatDoorF22
namespace Go.Proofs.YtoilcigmpeaedaaGreatDoor.Osc
open Go.RowKit Utf Col

/-- the library's table of powers of ten lies as it was laid, and will in whatever grows out of this world -/
def Tab (w : World) : Prop := Lib.TabBelow Tryz.prog w.heap.size w "internal/strconv.uint64pow10" .u64 Lib.pow10Tab
theorem Tab.keep {w w' : World} (h : Tab w) (hb : Below w.heap.size w w') : Tab w' := fun W hW => h W (B64.up hb hW)
/-- what the laws want of the world: the tables of utf, color and strconv -/
structure Env (w : World) : Prop where
  um : Mk w
  tc : Tc w
  tb : Tab w
theorem Env.keep {w w' : World} (h : Env w) (hb : Below w.heap.size w w') : Env w' := ⟨h.um.keep hb, h.tc.keep hb, h.tb.keep hb⟩
theorem itoa_dec (n : Nat) (h : n < 256) : Lib.itoa (n : Int) = decN n := by
  unfold Lib.itoa
  rw [if_neg (by omega), Int.toNat_natCast]
  unfold decN
  split
  · rename_i h1; rw [Lib.decDigits_one h1]
  · rename_i h1
    rw [Lib.decDigits, dif_neg h1]
    split
    · rename_i h2; rw [Lib.decDigits_one (by omega)]; rfl
    · rename_i h2
      rw [Lib.decDigits, dif_neg (by omega), Lib.decDigits_one (by omega), show n / 10 / 10 = n / 100 by omega]; rfl
theorem itoa_any (n : Nat) (h : n < 256) (w : World) (ht : Tab w) : Calls Tryz.prog 26 #[.int .i64 (n : Int)] w fun e w' => e = .returned (.string ⟨(decN n).toArray⟩) ∧ Below w.heap.size w w' := by
  refine (Tryz.strconv_Itoa (n : Int) (by omega) (by omega) w (ht w (Below.refl _ _))).mono ?_
  rintro e w' ⟨rfl, k, os, rfl⟩
  rw [itoa_dec n h]
  exact ⟨rfl, Lib.below_grow _ w (Nat.le_refl _) k os⟩
def prtV (a : A6) : Value := match prtO a with
  | some s => .tuple #[.string ⟨s.toArray⟩, .int .i64 0]
  | none => .tuple #[.string ⟨#[]⟩, .int .i64 2]
theorem prt_tit (a : A6) (h : titA a = true) : Value.tuple #[.string (⟨#[50, 59]⟩ ++ ⟨a.t.toArray⟩), .int .i64 0] = prtV a := by
  unfold titA at h
  rw [eqA_iff, Bool.and_eq_true, decide_eq_true_eq] at h
  obtain ⟨k, n, m, c0, c1, t⟩ := a
  obtain ⟨h1, h2⟩ := h
  injection h1 with e1 e2 e3 e4 e5 e6
  subst e1 e2 e3 e4 e5
  unfold prtV prtO
  rw [if_pos ⟨rfl, rfl, rfl, rfl, rfl, h2⟩]
  refine congrArg (fun x => Value.tuple #[.string x, .int .i64 0]) ?_
  apply ByteArray.ext
  rw [ByteArray.data_append]
  simp
theorem pal_iff (a : A6) (h : palA a = true) : ∃ n x : Nat, n < 256 ∧ x < 16777216 ∧ a = ⟨45, n, 0, 2, x, []⟩ := by
  unfold palA at h
  rw [eqA_iff, Bool.and_eq_true, decide_eq_true_eq] at h
  obtain ⟨k, n, m, c0, c1, t⟩ := a
  obtain ⟨h1, h2⟩ := h
  injection h1 with e1 e2 e3 e4 e5 e6
  simp only [Bool.and_eq_true, decide_eq_true_eq, beq_iff_eq] at h2
  obtain ⟨h3, h4, h5, h6⟩ := h2
  subst e1 e3 e6 h5
  have h7 : okC 2 c1 = true := by
    cases ho : okC 2 c1 with
    | true => rfl
    | false => rw [errC, ho] at h6; cases h6
  unfold okC at h7
  simp at h7
  refine ⟨n.toNat, c1.toNat, by omega, by omega, ?_⟩
  rw [Int.toNat_of_nonneg h3, Int.toNat_of_nonneg (by omega)]
theorem prt_pal (n x : Nat) (hn : n < 256) (hx : x < 16777216) : Value.tuple #[.string (⟨#[52, 59]⟩ ++ ⟨(decN n).toArray⟩ ++ ⟨#[59]⟩ ++ ⟨(txt x).toArray⟩), .int .i64 0] = prtV ⟨45, n, 0, 2, x, []⟩ := by
  unfold prtV prtO
  rw [if_neg (by intro hc; exact absurd hc.1 (by show ¬ (45 : Int) = 44; decide)), if_pos ⟨rfl, rfl, rfl, by dsimp only; omega, by dsimp only; omega, rfl, by dsimp only; omega, by dsimp only; omega⟩]
  dsimp only
  rw [Int.toNat_natCast, Int.toNat_natCast]
  refine congrArg (fun x => Value.tuple #[.string x, .int .i64 0]) ?_
  apply ByteArray.ext
  rw [ByteArray.data_append, ByteArray.data_append, ByteArray.data_append]
  simp
theorem prt_clp (a : A6) (h : clpA a = true) : Value.tuple #[.string (⟨#[53, 50, 59, 99, 59]⟩ ++ ⟨(B64.encL a.t).toArray⟩), .int .i64 0] = prtV a := by
  unfold clpA at h
  rw [eqA_iff, Bool.and_eq_true, decide_eq_true_eq, decide_eq_true_eq] at h
  obtain ⟨k, n, m, c0, c1, t⟩ := a
  obtain ⟨h1, h2⟩ := h
  injection h1 with e1 e2 e3 e4 e5 e6
  subst e1 e2 e3 e4 e5
  unfold prtV prtO
  rw [if_neg (by intro hc; exact absurd hc.1 (by show ¬ (46 : Int) = 44; decide)), if_neg (by intro hc; exact absurd hc.1 (by show ¬ (46 : Int) = 45; decide)), if_pos ⟨rfl, rfl, rfl, rfl, rfl, h2⟩]
  refine congrArg (fun x => Value.tuple #[.string x, .int .i64 0]) ?_
  apply ByteArray.ext
  rw [ByteArray.data_append]
  simp
theorem prt_none (a : A6) (h1 : titA a = false) (h2 : palA a = false) (h3 : clpA a = false) : Value.tuple #[.string ⟨#[]⟩, .int .i64 2] = prtV a := by
  obtain ⟨k, n, m, c0, c1, t⟩ := a
  unfold titA at h1
  unfold palA at h2
  unfold clpA at h3
  rw [eqA_iff] at h1 h2 h3
  unfold prtV prtO
  rw [if_neg, if_neg, if_neg]
  · rintro ⟨e1, e2, e3, e4, e5, e6⟩
    dsimp only at e1 e2 e3 e4 e5 e6
    subst e1 e2 e3 e4 e5
    rw [decide_eq_true rfl] at h3
    simp at h3
    omega
  · rintro ⟨e1, e2, e3, e4, e5, e6, e7, e8⟩
    dsimp only at e1 e2 e3 e4 e5 e6 e7 e8
    subst e1 e2 e3 e6
    have : errC 2 c1 = 0 := by rw [errC, okC, decide_eq_true (by omega)]; rfl
    rw [decide_eq_true rfl, this] at h2
    simp at h2
    omega
  · rintro ⟨e1, e2, e3, e4, e5, e6⟩
    dsimp only at e1 e2 e3 e4 e5 e6
    subst e1 e2 e3 e4 e5
    rw [decide_eq_true rfl, e6] at h1
    cases h1
theorem txt_pal (x : Nat) (h : x < 16777216) : txtV 2 x = .tuple #[.string ⟨(txt x).toArray⟩, .int .i64 0] := by
  have ho : okC 2 x = true := by rw [okC]; simp; omega
  exact (txtV_some 2 x x ho (by decide) (by rw [rgbC, ho]; rfl)).symm
def c6 (k n m c0 c1 : Int) (t : List UInt8) : List Value := [.int .i64 k, .int .i64 n, .int .i64 m, .int .i64 c0, .int .i64 c1, .string ⟨t.toArray⟩]
theorem bx_new (w : World) (k n m c0 c1 : Int) (t : List UInt8) : B64.Box (w.alloc (.cells #[.int .i64 k, .int .i64 n, .int .i64 m, .int .i64 c0, .int .i64 c1, .string ⟨t.toArray⟩] 25)) w.heap.size (c6 k n m c0 c1 t) := B64.Box.new w _ _
theorem box6 {w : World} {B : Nat} {k n m c0 c1 : Int} {t : List UInt8} (h : B64.Box w B (c6 k n m c0 c1 t)) : w.cell? ⟨B, 0, none⟩ = some (.int .i64 k) ∧ w.cell? ⟨B, 1, none⟩ = some (.int .i64 n) ∧ w.cell? ⟨B, 2, none⟩ = some (.int .i64 m) ∧ w.cell? ⟨B, 3, none⟩ = some (.int .i64 c0) ∧ w.cell? ⟨B, 4, none⟩ = some (.int .i64 c1) ∧ w.cell? ⟨B, 5, none⟩ = some (.string ⟨t.toArray⟩) :=
  ⟨h.cell 0 _ rfl, h.cell 1 _ rfl, h.cell 2 _ rfl, h.cell 3 _ rfl, h.cell 4 _ rfl, h.cell 5 _ rfl⟩
set_option maxRecDepth 100000 in
set_option maxHeartbeats 4000000 in
theorem print_tit (k n m c0 c1 : Int) (t : List UInt8) (w : World) (he : Env w) (R : Value) (hs : t.length ≤ 1000000) (HT : ∀ W, Env W → Calls Tryz.prog 23 #[actV ⟨k, n, m, c0, c1, t⟩] W fun e w' => e = .returned (.bool true) ∧ Below W.heap.size W w') (HF : Value.tuple #[.string (⟨#[50, 59]⟩ ++ ⟨t.toArray⟩), .int .i64 0] = R) : Calls Tryz.prog 10 #[actV ⟨k, n, m, c0, c1, t⟩] w fun e w' => e = .returned R ∧ Below w.heap.size w w' := by
  have HE := Lib.hid he
  have hb0 := fun o => B64.below_box w o
  clear he
  unfold actV at *
  dsimp only at *
  have HT := Lib.hid HT
  have hl9 : ¬ 9223372036854775807 < 2 + t.length := by omega
  clear hs
  go_enter Tryz.func10, Tryz.ntmps10
  go_wp2_with fail
  refine (HT.out _ (HE.out.keep (hb0 _))).mono ?_
  rintro e w1 ⟨rfl, hb1⟩
  have HX := Lib.hid ((bx_new w k n m c0 c1 t).keep hb1)
  obtain ⟨y0, y1, y2, y3, y4, y5⟩ := box6 HX.out
  have HE := Lib.hid ((HE.out.keep (hb0 _)).keep hb1)
  have hG := Lib.hid (B64.up (hb0 _) hb1)
  clear hb1
  go_wp2_with fail
  go_ret2
  exact ⟨congrArg Ending.returned HF, hG.out⟩
set_option maxRecDepth 100000 in
set_option maxHeartbeats 4000000 in
theorem print_pal (k n m c0 c1 : Int) (t : List UInt8) (w : World) (he : Env w) (N x : Nat) (R : Value) (HT : ∀ W, Env W → Calls Tryz.prog 23 #[actV ⟨k, n, m, c0, c1, t⟩] W fun e w' => e = .returned (.bool false) ∧ Below W.heap.size W w') (HP : ∀ W, Env W → Calls Tryz.prog 24 #[actV ⟨k, n, m, c0, c1, t⟩] W fun e w' => e = .returned (.bool true) ∧ Below W.heap.size W w') (hn : n = (N : Int)) (hk : c0 = 2 ∧ c1 = (x : Int))
    (HX0 : ∀ W, Env W → Calls Tryz.prog 25 #[.agg #[.int .i64 2, .int .i64 (x : Int)]] W fun e w' => e = .returned (.tuple #[.string ⟨(txt x).toArray⟩, .int .i64 0]) ∧ Below W.heap.size W w')
    (HI : ∀ W, Env W → Calls Tryz.prog 26 #[.int .i64 (N : Int)] W fun e w' => e = .returned (.string ⟨(decN N).toArray⟩) ∧ Below W.heap.size W w') (hd : (decN N).length ≤ 3)
    (HF : Value.tuple #[.string (⟨#[52, 59]⟩ ++ ⟨(decN N).toArray⟩ ++ ⟨#[59]⟩ ++ ⟨(txt x).toArray⟩), .int .i64 0] = R) : Calls Tryz.prog 10 #[actV ⟨k, n, m, c0, c1, t⟩] w fun e w' => e = .returned R ∧ Below w.heap.size w w' := by
  have HE := Lib.hid he
  have hb0 := fun o => B64.below_box w o
  clear he
  unfold actV at *
  dsimp only at *
  obtain ⟨rfl, rfl⟩ := hk
  subst hn
  have HT := Lib.hid HT
  have HP := Lib.hid HP
  have HX0 := Lib.hid HX0
  have HI := Lib.hid HI
  have hx12 := txt_len x
  obtain ⟨D, hD⟩ : ∃ D, D = decN N := ⟨_, rfl⟩
  obtain ⟨X, hX⟩ : ∃ X, X = txt x := ⟨_, rfl⟩
  rw [← hD] at HI HF hd
  rw [← hX] at HX0 HF hx12
  clear hD hX
  have hl7 : ¬ 9223372036854775807 < 2 + D.length := by omega
  have hl8 : ¬ 9223372036854775807 < 2 + D.length + 1 := by omega
  have hl9 : ¬ 9223372036854775807 < 2 + D.length + 1 + X.length := by omega
  clear hd hx12
  go_enter Tryz.func10, Tryz.ntmps10
  go_wp2_with fail
  refine (HT.out _ (HE.out.keep (hb0 _))).mono ?_
  rintro e w1 ⟨rfl, hb1⟩
  have HX := Lib.hid ((bx_new w k N m 2 x t).keep hb1)
  obtain ⟨y0, y1, y2, y3, y4, y5⟩ := box6 HX.out
  have HE := Lib.hid ((HE.out.keep (hb0 _)).keep hb1)
  have hG := Lib.hid (B64.up (hb0 _) hb1)
  clear hb1
  go_wp2_with fail
  refine (HP.out _ HE.out).mono ?_
  rintro e w2 ⟨rfl, hb2⟩
  clear y0 y1 y2 y3 y4 y5
  have HX := Lib.hid (HX.out.keep hb2)
  obtain ⟨y0, y1, y2, y3, y4, y5⟩ := box6 HX.out
  have HE := Lib.hid (HE.out.keep hb2)
  have hG := Lib.hid (B64.up hG.out hb2)
  clear hb2
  go_wp2_with fail
  refine (HX0.out _ HE.out).mono ?_
  rintro e w3 ⟨rfl, hb3⟩
  clear y0 y1 y2 y3 y4 y5
  have HX := Lib.hid (HX.out.keep hb3)
  obtain ⟨y0, y1, y2, y3, y4, y5⟩ := box6 HX.out
  have HE := Lib.hid (HE.out.keep hb3)
  have hG := Lib.hid (B64.up hG.out hb3)
  clear hb3
  go_wp2_with fail
  refine (HI.out _ HE.out).mono ?_
  rintro e w4 ⟨rfl, hb4⟩
  clear y0 y1 y2 y3 y4 y5
  have HX := Lib.hid (HX.out.keep hb4)
  obtain ⟨y0, y1, y2, y3, y4, y5⟩ := box6 HX.out
  have HE := Lib.hid (HE.out.keep hb4)
  have hG := Lib.hid (B64.up hG.out hb4)
  clear hb4
  go_wp2_with fail
  go_ret2
  exact ⟨congrArg Ending.returned HF, hG.out⟩
set_option maxRecDepth 100000 in
set_option maxHeartbeats 4000000 in
theorem print_clp (k n m c0 c1 : Int) (t : List UInt8) (w : World) (he : Env w) (E : List UInt8) (R : Value) (HT : ∀ W, Env W → Calls Tryz.prog 23 #[actV ⟨k, n, m, c0, c1, t⟩] W fun e w' => e = .returned (.bool false) ∧ Below W.heap.size W w') (HP : ∀ W, Env W → Calls Tryz.prog 24 #[actV ⟨k, n, m, c0, c1, t⟩] W fun e w' => e = .returned (.bool false) ∧ Below W.heap.size W w') (HC : ∀ W, Env W → Calls Tryz.prog 27 #[actV ⟨k, n, m, c0, c1, t⟩] W fun e w' => e = .returned (.bool true) ∧ Below W.heap.size W w') (hl : E.length ≤ 1000000)
    (HX0 : ∀ W, Env W → Calls Tryz.prog 28 #[.string ⟨t.toArray⟩] W fun e w' => e = .returned (.tuple #[.string ⟨E.toArray⟩, .int .i64 0]) ∧ Below W.heap.size W w')
    (HF : Value.tuple #[.string (⟨#[53, 50, 59, 99, 59]⟩ ++ ⟨E.toArray⟩), .int .i64 0] = R) : Calls Tryz.prog 10 #[actV ⟨k, n, m, c0, c1, t⟩] w fun e w' => e = .returned R ∧ Below w.heap.size w w' := by
  have HE := Lib.hid he
  have hb0 := fun o => B64.below_box w o
  clear he
  unfold actV at *
  dsimp only at *
  have HT := Lib.hid HT
  have HP := Lib.hid HP
  have HC := Lib.hid HC
  have HX0 := Lib.hid HX0
  have hl9 : ¬ 9223372036854775807 < 5 + E.length := by omega
  clear hl
  go_enter Tryz.func10, Tryz.ntmps10
  go_wp2_with fail
  refine (HT.out _ (HE.out.keep (hb0 _))).mono ?_
  rintro e w1 ⟨rfl, hb1⟩
  have HX := Lib.hid ((bx_new w k n m c0 c1 t).keep hb1)
  obtain ⟨y0, y1, y2, y3, y4, y5⟩ := box6 HX.out
  have HE := Lib.hid ((HE.out.keep (hb0 _)).keep hb1)
  have hG := Lib.hid (B64.up (hb0 _) hb1)
  clear hb1
  go_wp2_with fail
  refine (HP.out _ HE.out).mono ?_
  rintro e w2 ⟨rfl, hb2⟩
  clear y0 y1 y2 y3 y4 y5
  have HX := Lib.hid (HX.out.keep hb2)
  obtain ⟨y0, y1, y2, y3, y4, y5⟩ := box6 HX.out
  have HE := Lib.hid (HE.out.keep hb2)
  have hG := Lib.hid (B64.up hG.out hb2)
  clear hb2
  go_wp2_with fail
  refine (HC.out _ HE.out).mono ?_
  rintro e w3 ⟨rfl, hb3⟩
  clear y0 y1 y2 y3 y4 y5
  have HX := Lib.hid (HX.out.keep hb3)
  obtain ⟨y0, y1, y2, y3, y4, y5⟩ := box6 HX.out
  have HE := Lib.hid (HE.out.keep hb3)
  have hG := Lib.hid (B64.up hG.out hb3)
  clear hb3
  go_wp2_with fail
  refine (HX0.out _ HE.out).mono ?_
  rintro e w4 ⟨rfl, hb4⟩
  clear y0 y1 y2 y3 y4 y5
  have HX := Lib.hid (HX.out.keep hb4)
  obtain ⟨y0, y1, y2, y3, y4, y5⟩ := box6 HX.out
  have HE := Lib.hid (HE.out.keep hb4)
  have hG := Lib.hid (B64.up hG.out hb4)
  clear hb4
  go_wp2_with fail
  go_ret2
  exact ⟨congrArg Ending.returned HF, hG.out⟩
set_option maxRecDepth 100000 in
set_option maxHeartbeats 4000000 in
theorem print_none (k n m c0 c1 : Int) (t : List UInt8) (w : World) (he : Env w) (R : Value) (HT : ∀ W, Env W → Calls Tryz.prog 23 #[actV ⟨k, n, m, c0, c1, t⟩] W fun e w' => e = .returned (.bool false) ∧ Below W.heap.size W w') (HP : ∀ W, Env W → Calls Tryz.prog 24 #[actV ⟨k, n, m, c0, c1, t⟩] W fun e w' => e = .returned (.bool false) ∧ Below W.heap.size W w') (HC : ∀ W, Env W → Calls Tryz.prog 27 #[actV ⟨k, n, m, c0, c1, t⟩] W fun e w' => e = .returned (.bool false) ∧ Below W.heap.size W w') (HF : Value.tuple #[.string ⟨#[]⟩, .int .i64 2] = R) : Calls Tryz.prog 10 #[actV ⟨k, n, m, c0, c1, t⟩] w fun e w' => e = .returned R ∧ Below w.heap.size w w' := by
  have HE := Lib.hid he
  have hb0 := fun o => B64.below_box w o
  clear he
  unfold actV at *
  dsimp only at *
  have HT := Lib.hid HT
  have HP := Lib.hid HP
  have HC := Lib.hid HC
  go_enter Tryz.func10, Tryz.ntmps10
  go_wp2_with fail
  refine (HT.out _ (HE.out.keep (hb0 _))).mono ?_
  rintro e w1 ⟨rfl, hb1⟩
  have HX := Lib.hid ((bx_new w k n m c0 c1 t).keep hb1)
  obtain ⟨y0, y1, y2, y3, y4, y5⟩ := box6 HX.out
  have HE := Lib.hid ((HE.out.keep (hb0 _)).keep hb1)
  have hG := Lib.hid (B64.up (hb0 _) hb1)
  clear hb1
  go_wp2_with fail
  refine (HP.out _ HE.out).mono ?_
  rintro e w2 ⟨rfl, hb2⟩
  clear y0 y1 y2 y3 y4 y5
  have HX := Lib.hid (HX.out.keep hb2)
  obtain ⟨y0, y1, y2, y3, y4, y5⟩ := box6 HX.out
  have HE := Lib.hid (HE.out.keep hb2)
  have hG := Lib.hid (B64.up hG.out hb2)
  clear hb2
  go_wp2_with fail
  refine (HC.out _ HE.out).mono ?_
  rintro e w3 ⟨rfl, hb3⟩
  clear y0 y1 y2 y3 y4 y5
  have HX := Lib.hid (HX.out.keep hb3)
  obtain ⟨y0, y1, y2, y3, y4, y5⟩ := box6 HX.out
  have HE := Lib.hid (HE.out.keep hb3)
  have hG := Lib.hid (B64.up hG.out hb3)
  clear hb3
  go_wp2_with fail
  go_ret2
  exact ⟨congrArg Ending.returned HF, hG.out⟩
theorem print_any (a : A6) (w : World) (he : Env w) (hs : a.t.length ≤ 1000000) : Calls Tryz.prog 10 #[actV a] w fun e w' => e = .returned (prtV a) ∧ Below w.heap.size w w' := by
  have HT := fun W (h : Env W) => isTitleAction_any a W h.um hs
  have HP := fun W (h : Env W) => isPaletteAction_any a W h.tc
  have HC := fun W (_ : Env W) => isClipAction_any a W
  cases ht : titA a with
  | true =>
    rw [ht] at HT
    exact print_tit a.k a.n a.m a.c0 a.c1 a.t w he _ hs HT (prt_tit a ht)
  | false =>
    rw [ht] at HT
    cases hp : palA a with
    | true =>
      rw [hp] at HP
      obtain ⟨n, x, hn, hx, rfl⟩ := pal_iff a hp
      exact print_pal 45 n 0 2 x [] w he n x _ HT HP rfl ⟨rfl, rfl⟩ (fun W h => by rw [← txt_pal x hx]; exact text_any 2 x W h.tc) (fun W h => itoa_any n hn W h.tb) ((decN_all ⟨n, hn⟩).2.1) (prt_pal n x hn hx)
    | false =>
      rw [hp] at HP
      cases hc : clpA a with
      | true =>
        rw [hc] at HC
        have h3 : a.t.length ≤ 378 := by
          unfold clpA at hc
          simp at hc
          exact hc.2
        exact print_clp a.k a.n a.m a.c0 a.c1 a.t w he (B64.encL a.t) _ HT HP HC (by rw [B64.encL_len]; omega) (fun W h => B64.encode_any ⟨a.t.toArray⟩ W (by rw [Lib.size_mk]; omega)) (prt_clp a hc)
      | false =>
        rw [hc] at HC
        exact print_none a.k a.n a.m a.c0 a.c1 a.t w he _ HT HP HC (prt_none a ht hp hc)
end Go.Proofs.YtoilcigmpeaedaaGreatDoor.Osc
