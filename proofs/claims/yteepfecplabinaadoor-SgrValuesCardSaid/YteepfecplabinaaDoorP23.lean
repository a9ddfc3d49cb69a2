/-
  SgrH SgrI SgrJ
-/
import Derived.Test.YteepfecplabinaaDoorP15
import Derived.Test.YteepfecplabinaaDoorP20
import Derived.Test.YteepfecplabinaaDoorP22
namespace Go.Proofs.YteepfecplabinaaDoor.Sgr
open Go.RowKit Utf Par

theorem colorPen_yes (v : Int) (h : 0 ≤ whV v) (w : World) : Calls Tryd.prog 92 #[.int .i64 v] w fun e w' => e = .returned (.tuple #[.int .i64 (whV v), .bool true]) ∧ w = w' := by
  have := colorPen_any v w
  unfold cpV at this
  rwa [if_pos h, decide_eq_true h] at this
theorem colorPen_no (v : Int) (h : whV v < 0) (w : World) : Calls Tryd.prog 92 #[.int .i64 v] w fun e w' => e = .returned (.tuple #[.int .i64 0, .bool false]) ∧ w = w' := by
  have := colorPen_any v w
  unfold cpV at this
  rwa [if_neg (by omega), decide_eq_false (by omega)] at this
theorem add_pos (ad : Addr) (k : Nat) (h : k ≠ 0) : ad.add k = ⟨ad.block, ad.off + k, none⟩ := by unfold Addr.add; rw [if_neg h]
theorem add_nil (ad : Addr) : ad.add 0 = ad := by unfold Addr.add; simp
theorem colored_is (n k c c' : Int) (h : c' = c) (w : World) : Calls Tryd.prog 88 #[.int .i64 n, .int .i64 k, .int .i64 c'] w fun e w' => e = .returned (.agg #[.int .i64 39, .int .i64 n, .int .i64 0, .int .i64 k, .int .i64 c, .string ⟨#[]⟩]) ∧ Below w.heap.size w w' := by
  subst h; exact colored_any n k c' w
theorem or_i64 (a b : Nat) (ha : a < 9223372036854775808) (hb : b < 9223372036854775808) : bits .or .i64 (a : Int) (b : Int) = ((a ||| b : Nat) : Int) := by
  have hx : a ||| b < 2 ^ 63 := Nat.or_lt_two_pow (by omega) (by omega)
  show IntKind.i64.wrap ((BitVec.ofInt 64 (a : Int) ||| BitVec.ofInt 64 (b : Int)).toNat : Int) = _
  rw [BitVec.toNat_or, ofInt64 a ha, ofInt64 b hb, IntKind.wrap_i64]
  omega
theorem or_add (v q k : Nat) (hq : q < 2 ^ k) : (v * 2 ^ k) ||| q = v * 2 ^ k + q := by
  rw [Nat.mul_comm, ← Nat.two_pow_add_eq_or_of_lt hq]
theorem or3 (x y z : Int) (hx : inB x = true) (hy : inB y = true) (hz : inB z = true) : bits .or .i64 (bits .or .i64 (IntKind.i64.wrap (x * 65536)) (IntKind.i64.wrap (y * 256))) z = x * 65536 + y * 256 + z := by
  rw [inB_iff] at hx hy hz
  obtain ⟨r, rfl⟩ := Int.eq_ofNat_of_zero_le hx.1
  obtain ⟨g, rfl⟩ := Int.eq_ofNat_of_zero_le hy.1
  obtain ⟨b, rfl⟩ := Int.eq_ofNat_of_zero_le hz.1
  have h1 := hx.2
  have h3 := hy.2
  have h5 := hz.2
  rw [IntWalk.i64_in _ (by omega), IntWalk.i64_in _ (by omega)]
  have e1 : (r : Int) * 65536 = ((r * 65536 : Nat) : Int) := by omega
  have e2 : (g : Int) * 256 = ((g * 256 : Nat) : Int) := by omega
  rw [e1, e2, or_i64 _ _ (by omega) (by omega), show r * 65536 = r * 2 ^ 16 from rfl, or_add r _ 16 (by omega), or_i64 _ _ (by omega) (by omega), show r * 2 ^ 16 + g * 256 = (r * 256 + g) * 2 ^ 8 by omega, or_add _ b 8 (by omega)]
  omega
theorem any3 (x y z : Int) (h : [x, y, z].any noB = false) : inB x = true ∧ inB y = true ∧ inB z = true := by
  simp only [List.any_cons, List.any_nil, Bool.or_eq_false_iff, noB_is, Bool.not_eq_false'] at h
  exact ⟨h.1, h.2.1, h.2.2.1⟩
/-- the zero action -/
def zA : Value := Sty.penV 0 0 0 0 0 ⟨#[]⟩
def oV : Option Q4 → Value
  | none => zA
  | some q => qV q
/-- the numbers behind the first two, without a color space -/
def rstO (p : List Int) : List Int := if p.length = 6 then p.drop 3 else p.drop 2
/-- the pen of a color's numbers: the first, the second, the rest -/
def colR (a b : Int) (r : List Int) : Option Q4 :=
  if whV a < 0 then none
  else if r.any noB then none
  else if b = 5 ∧ r.length = 1 then some (cq (whV a) 1 (r.getD 0 0))
  else if b = 2 ∧ r.length = 3 then some (rgbQ (whV a) (r.getD 0 0) (r.getD 1 0) (r.getD 2 0))
  else none
def colO (p : List Int) : Option Q4 := colR (p.getD 0 0) (p.getD 1 0) (rstO p)
theorem colR_no {a b : Int} {r : List Int} (h : whV a < 0) : colR a b r = none := by unfold colR; rw [if_pos h]
theorem colR_any {a b : Int} {r : List Int} (h : r.any noB = true) : colR a b r = none := by
  unfold colR
  by_cases hw : whV a < 0
  · rw [if_pos hw]
  · rw [if_neg hw, if_pos h]
theorem colR_none {a b : Int} {r : List Int} (h1 : ¬ (b = 5 ∧ r.length = 1)) (h2 : ¬ (b = 2 ∧ r.length = 3)) : colR a b r = none := by
  unfold colR
  rw [if_neg h1, if_neg h2]
  split
  · rfl
  · split <;> rfl
theorem colR_5 {a x : Int} (hw : 0 ≤ whV a) (h : [x].any noB = false) : colR a 5 [x] = some (cq (whV a) 1 x) := by
  unfold colR
  rw [if_neg (by omega), if_neg (by rw [h]; decide), if_pos ⟨rfl, rfl⟩]; rfl
theorem colR_2 {a x y z : Int} (hw : 0 ≤ whV a) (h : [x, y, z].any noB = false) : colR a 2 [x, y, z] = some (rgbQ (whV a) x y z) := by
  unfold colR
  rw [if_neg (by omega), if_neg (by rw [h]; decide), if_neg (by simp), if_pos ⟨rfl, rfl⟩]; rfl
def OptPost (w : World) (o : Option Q4) (e : Ending) (w' : World) : Prop := e = .returned (.tuple #[oV o, .bool o.isSome]) ∧ Below w.heap.size w w'
theorem cell_i {w : World} {A : Option Addr} {n c : Nat} {zs : List Int} (h : RI w (.slice A n c) zs) (k : Nat) (hk : k < n) : ∃ ad, A = some ad ∧ ad.block < w.heap.size ∧ w.cell? (ad.add k) = some (.int .i64 (zs.getD k 0)) := by
  obtain ⟨A0, c0, he, hc, hm, hA, hr⟩ := h
  cases he
  have : zs[k]? = some (zs.getD k 0) := by rw [List.getD_eq_getElem?_getD]; rw [List.getElem?_eq_getElem hk]; rfl
  exact hr k _ (cI_at zs k _ this)
def zP : Sty.P6 := ⟨0, 0, 0, 0, 0, ⟨#[]⟩⟩
theorem put_c6 {w : World} {b : Nat} (k n m c0 c1 : Int) (t : ByteArray) {p : Sty.P6} (h : Sty.Box w b (Sty.cP p)) :
    (loadVar 48 ⟨b, 0, none⟩).run Tryd.prog ((((((w.setCell ⟨b, 0, none⟩ (.int .i64 k)).setCell ⟨b, 1, none⟩ (.int .i64 n)).setCell ⟨b, 2, none⟩ (.int .i64 m)).setCell ⟨b, 3, none⟩ (.int .i64 c0)).setCell ⟨b, 4, none⟩ (.int .i64 c1)).setCell ⟨b, 5, none⟩ (.string t)) =
      .ok (Sty.penV k n m c0 c1 t) ((((((w.setCell ⟨b, 0, none⟩ (.int .i64 k)).setCell ⟨b, 1, none⟩ (.int .i64 n)).setCell ⟨b, 2, none⟩ (.int .i64 m)).setCell ⟨b, 3, none⟩ (.int .i64 c0)).setCell ⟨b, 4, none⟩ (.int .i64 c1)).setCell ⟨b, 5, none⟩ (.string t)) :=
  load_c6 (Sty.put6 w b ⟨k, n, m, c0, c1, t⟩ p h)
theorem below_c6 {B : Nat} {a w : World} (b : Nat) (k n m c0 c1 : Int) (t : ByteArray) (h : Below B a w) (hb : B ≤ b) : Below B a ((((((w.setCell ⟨b, 0, none⟩ (.int .i64 k)).setCell ⟨b, 1, none⟩ (.int .i64 n)).setCell ⟨b, 2, none⟩ (.int .i64 m)).setCell ⟨b, 3, none⟩ (.int .i64 c0)).setCell ⟨b, 4, none⟩ (.int .i64 c1)).setCell ⟨b, 5, none⟩ (.string t)) :=
  Sty.below6 b ⟨k, n, m, c0, c1, t⟩ h hb
theorem load_p {w : World} {B : Nat} (p : Sty.P6) (h : Sty.Box w B (Sty.cP p)) : (loadVar 48 ⟨B, 0, none⟩).run Tryd.prog w = .ok (Sty.penV p.k p.n p.m p.c0 p.c1 p.t) w := load_c6 h
theorem rd_at {w : World} {ad : Addr} {c : Nat} {zs : List Int} (h : RI w (.slice (some ad) zs.length c) zs) (k : Nat) (hk : k ≠ 0) : Rd w (some ⟨ad.block, ad.off + k, none⟩) (cI (zs.drop k)) := by
  obtain ⟨A0, c0, he, hc, hm, hA, hr⟩ := h
  cases he
  have := Rd.from hr k
  rw [add_pos ad k hk] at this
  unfold cI at this ⊢
  rwa [List.map_drop]
set_option maxRecDepth 100000 in
set_option maxHeartbeats 4000000 in
theorem col_2n (A : Option Addr) (c : Nat) (a b : Int) (w : World) (h : RI w (.slice A 2 c) [a, b]) (hw : whV a < 0) : Calls Tryd.prog 95 #[.slice A 2 c] w (OptPost w (colO [a, b])) := by
  obtain ⟨O, hO⟩ : ∃ O, O = colO [a, b] := ⟨_, rfl⟩
  have HO := Lib.hid (hO.trans (show colO [a, b] = none from colR_no hw))
  rw [← hO]
  clear hO
  have hcc : 2 ≤ c := by obtain ⟨A0, c0, he, hc, -⟩ := h; cases he; exact hc
  obtain ⟨ad, hA0, hbl0, hc0⟩ := cell_i h 0 (by decide)
  cases hA0
  obtain ⟨ad1, hA1, hbl1, hc1⟩ := cell_i h 1 (by decide)
  cases hA1
  rw [add_nil] at hc0
  rw [add_pos ad 1 (by decide)] at hc1
  have hb0 := below_box w (.cells #[.int .i64 0, .int .i64 0, .int .i64 0, .int .i64 0, .int .i64 0, .string ⟨#[]⟩] 48)
  have hX : Sty.Box (w.alloc (.cells #[.int .i64 0, .int .i64 0, .int .i64 0, .int .i64 0, .int .i64 0, .string ⟨#[]⟩] 48)) w.heap.size (Sty.cP zP) := Sty.Box.new _ _ _
  have d0 := (hb0.cell (p := ad) hbl0).trans hc0
  have d1 := (hb0.cell (p := ⟨ad.block, ad.off + 1, none⟩) (by show ad.block < w.heap.size; exact hbl0)).trans hc1
  have HX := Lib.hid hX; clear hX
  have HB := Lib.hid hb0; clear hb0
  have hRn : ∀ W A, Rd W A (cI []) := fun W A => Rd.nil W A
  have HP := Lib.hid (fun W => colorPen_no a hw W)
  clear h hc0 hc1 hbl0 hbl1 hw
  go_enter Tryd.func95, Tryd.ntmps95
  go_upto_region 1 with fail
  obtain ⟨w1, hw1⟩ : ∃ W, W = w.alloc (.cells #[.int .i64 0, .int .i64 0, .int .i64 0, .int .i64 0, .int .i64 0, .string ⟨#[]⟩] 48) := ⟨_, rfl⟩
  rw [← hw1] at HX HB d0 d1 ⊢
  clear hw1
  have HX := Lib.hid HX.out.drew
  have HB := Lib.hid HB.out.drew

  have e1 : w1.drew.cell? ⟨ad.block, ad.off + 1, none⟩ = some (.int .i64 b) := d1
  go_upto_region 2 with (go_at_call 92; refine (HP.out _).mono ?_; rintro e w2 ⟨rfl, rfl⟩)
  go_region
  all_goals
    clear d0 d1 e1 hRn
    generalize w1.drew = w2 at HX HB ⊢
    have z0 := HX.out.cell 0 _ rfl
    have f0 := HX.out.free 0 (by show 0 < 6; decide)
    have z1 := HX.out.cell 1 _ rfl
    have f1 := HX.out.free 1 (by show 1 < 6; decide)
    have z2 := HX.out.cell 2 _ rfl
    have f2 := HX.out.free 2 (by show 2 < 6; decide)
    have z3 := HX.out.cell 3 _ rfl
    have f3 := HX.out.free 3 (by show 3 < 6; decide)
    have z4 := HX.out.cell 4 _ rfl
    have f4 := HX.out.free 4 (by show 4 < 6; decide)
    have z5 := HX.out.cell 5 _ rfl
    have f5 := HX.out.free 5 (by show 5 < 6; decide)
    have hsz := HB.out.size
    go_wp2_with fail
    all_goals
      refine bodyPost_ret (ret_cell2 rfl _ _ ⟨w.heap.size, 0, none⟩ _ rfl (put_c6 0 0 0 0 0 ⟨#[]⟩ HX.out)) rfl ?_
      unfold OptPost
      rw [HO.out]
      exact ⟨rfl, Sty.below6 _ ⟨0, 0, 0, 0, 0, ⟨#[]⟩⟩ HB.out (Nat.le_refl _)⟩
set_option maxRecDepth 100000 in
set_option maxHeartbeats 4000000 in
theorem col_2ynone (A : Option Addr) (c : Nat) (a b : Int) (w : World) (h : RI w (.slice A 2 c) [a, b]) (hw : 0 ≤ whV a) (hy : [].any noB = false) : Calls Tryd.prog 95 #[.slice A 2 c] w (OptPost w (colO [a, b])) := by
  obtain ⟨O, hO⟩ : ∃ O, O = colO [a, b] := ⟨_, rfl⟩
  have HO := Lib.hid (hO.trans (show colO [a, b] = none from colR_none (by rintro ⟨h1, h2⟩; exact absurd (show 0 = 1 from h2) (by decide)) (by rintro ⟨h1, h2⟩; exact absurd (show 0 = 3 from h2) (by decide))))
  rw [← hO]
  clear hO
  have hcc : 2 ≤ c := by obtain ⟨A0, c0, he, hc, -⟩ := h; cases he; exact hc
  obtain ⟨ad, hA0, hbl0, hc0⟩ := cell_i h 0 (by decide)
  cases hA0
  obtain ⟨ad1, hA1, hbl1, hc1⟩ := cell_i h 1 (by decide)
  cases hA1
  rw [add_nil] at hc0
  rw [add_pos ad 1 (by decide)] at hc1
  have hb0 := below_box w (.cells #[.int .i64 0, .int .i64 0, .int .i64 0, .int .i64 0, .int .i64 0, .string ⟨#[]⟩] 48)
  have hX : Sty.Box (w.alloc (.cells #[.int .i64 0, .int .i64 0, .int .i64 0, .int .i64 0, .int .i64 0, .string ⟨#[]⟩] 48)) w.heap.size (Sty.cP zP) := Sty.Box.new _ _ _
  have d0 := (hb0.cell (p := ad) hbl0).trans hc0
  have d1 := (hb0.cell (p := ⟨ad.block, ad.off + 1, none⟩) (by show ad.block < w.heap.size; exact hbl0)).trans hc1
  have HX := Lib.hid hX; clear hX
  have HB := Lib.hid hb0; clear hb0
  have hRn : ∀ W A, Rd W A (cI []) := fun W A => Rd.nil W A
  have HP := Lib.hid (fun W => colorPen_yes a hw W)
  clear h hc0 hc1 hbl0 hbl1 hw
  go_enter Tryd.func95, Tryd.ntmps95
  go_upto_region 1 with fail
  obtain ⟨w1, hw1⟩ : ∃ W, W = w.alloc (.cells #[.int .i64 0, .int .i64 0, .int .i64 0, .int .i64 0, .int .i64 0, .string ⟨#[]⟩] 48) := ⟨_, rfl⟩
  rw [← hw1] at HX HB d0 d1 ⊢
  clear hw1
  have HX := Lib.hid HX.out.drew
  have HB := Lib.hid HB.out.drew

  have e1 : w1.drew.cell? ⟨ad.block, ad.off + 1, none⟩ = some (.int .i64 b) := d1
  go_upto_region 2 with (go_at_call 92; refine (HP.out _).mono ?_; rintro e w2 ⟨rfl, rfl⟩)
  go_region
  all_goals
    clear d0 d1
    go_wp2_with (go_at_call 73; refine (containsB_any _ 0 _ [] _ rfl (hRn _ _) (by decide)).mono ?_; rw [hy]; rintro e w3 ⟨rfl, hb3⟩; have HX := Lib.hid (HX.out.keep hb3); have HB := Lib.hid (Par.up HB.out hb3); have hsz := HB.out.size; have z0 := HX.out.cell 0 _ rfl; have f0 := HX.out.free 0 (by show 0 < 6; decide); have z1 := HX.out.cell 1 _ rfl; have f1 := HX.out.free 1 (by show 1 < 6; decide); have z2 := HX.out.cell 2 _ rfl; have f2 := HX.out.free 2 (by show 2 < 6; decide); have z3 := HX.out.cell 3 _ rfl; have f3 := HX.out.free 3 (by show 3 < 6; decide); have z4 := HX.out.cell 4 _ rfl; have f4 := HX.out.free 4 (by show 4 < 6; decide); have z5 := HX.out.cell 5 _ rfl; have f5 := HX.out.free 5 (by show 5 < 6; decide))
    all_goals
      refine bodyPost_ret (ret_cell2 rfl _ _ ⟨w.heap.size, 0, none⟩ _ rfl (put_c6 0 0 0 0 0 ⟨#[]⟩ HX.out)) rfl ?_
      unfold OptPost
      rw [HO.out]
      exact ⟨rfl, Sty.below6 _ ⟨0, 0, 0, 0, 0, ⟨#[]⟩⟩ HB.out (Nat.le_refl _)⟩
set_option maxRecDepth 100000 in
set_option maxHeartbeats 4000000 in
theorem col_3n (A : Option Addr) (c : Nat) (a b x : Int) (w : World) (h : RI w (.slice A 3 c) [a, b, x]) (hw : whV a < 0) : Calls Tryd.prog 95 #[.slice A 3 c] w (OptPost w (colO [a, b, x])) := by
  obtain ⟨O, hO⟩ : ∃ O, O = colO [a, b, x] := ⟨_, rfl⟩
  have HO := Lib.hid (hO.trans (show colO [a, b, x] = none from colR_no hw))
  rw [← hO]
  clear hO
  have hcc : 3 ≤ c := by obtain ⟨A0, c0, he, hc, -⟩ := h; cases he; exact hc
  obtain ⟨ad, hA0, hbl0, hc0⟩ := cell_i h 0 (by decide)
  cases hA0
  obtain ⟨ad1, hA1, hbl1, hc1⟩ := cell_i h 1 (by decide)
  cases hA1
  obtain ⟨ad2, hA2, hbl2, hc2⟩ := cell_i h 2 (by decide)
  cases hA2
  rw [add_nil] at hc0
  rw [add_pos ad 1 (by decide)] at hc1
  rw [add_pos ad 2 (by decide)] at hc2
  have hb0 := below_box w (.cells #[.int .i64 0, .int .i64 0, .int .i64 0, .int .i64 0, .int .i64 0, .string ⟨#[]⟩] 48)
  have hX : Sty.Box (w.alloc (.cells #[.int .i64 0, .int .i64 0, .int .i64 0, .int .i64 0, .int .i64 0, .string ⟨#[]⟩] 48)) w.heap.size (Sty.cP zP) := Sty.Box.new _ _ _
  have d0 := (hb0.cell (p := ad) hbl0).trans hc0
  have d1 := (hb0.cell (p := ⟨ad.block, ad.off + 1, none⟩) (by show ad.block < w.heap.size; exact hbl0)).trans hc1
  have d2 := (hb0.cell (p := ⟨ad.block, ad.off + 2, none⟩) (by show ad.block < w.heap.size; exact hbl0)).trans hc2
  have HX := Lib.hid hX; clear hX
  have HB := Lib.hid hb0; clear hb0
  have HR := Lib.hid ((rd_at (c := c) (show RI w (.slice (some ad) [a, b, x].length c) [a, b, x] from h) 2 (by decide)).below HB.out)
  have HP := Lib.hid (fun W => colorPen_no a hw W)
  clear h hc0 hc1 hc2 hbl0 hbl1 hbl2 hw
  go_enter Tryd.func95, Tryd.ntmps95
  go_upto_region 1 with fail
  obtain ⟨w1, hw1⟩ : ∃ W, W = w.alloc (.cells #[.int .i64 0, .int .i64 0, .int .i64 0, .int .i64 0, .int .i64 0, .string ⟨#[]⟩] 48) := ⟨_, rfl⟩
  rw [← hw1] at HX HB d0 d1 d2 HR ⊢
  clear hw1
  have HX := Lib.hid HX.out.drew
  have HB := Lib.hid HB.out.drew
  have HR := Lib.hid (HR.out.below ((Below.refl _ w1).drew))
  have e1 : w1.drew.cell? ⟨ad.block, ad.off + 1, none⟩ = some (.int .i64 b) := d1
  have e2 : w1.drew.cell? ⟨ad.block, ad.off + 2, none⟩ = some (.int .i64 x) := d2
  go_upto_region 2 with (go_at_call 92; refine (HP.out _).mono ?_; rintro e w2 ⟨rfl, rfl⟩)
  go_region
  all_goals
    clear d0 d1 d2 e1 e2 HR
    generalize w1.drew = w2 at HX HB ⊢
    have z0 := HX.out.cell 0 _ rfl
    have f0 := HX.out.free 0 (by show 0 < 6; decide)
    have z1 := HX.out.cell 1 _ rfl
    have f1 := HX.out.free 1 (by show 1 < 6; decide)
    have z2 := HX.out.cell 2 _ rfl
    have f2 := HX.out.free 2 (by show 2 < 6; decide)
    have z3 := HX.out.cell 3 _ rfl
    have f3 := HX.out.free 3 (by show 3 < 6; decide)
    have z4 := HX.out.cell 4 _ rfl
    have f4 := HX.out.free 4 (by show 4 < 6; decide)
    have z5 := HX.out.cell 5 _ rfl
    have f5 := HX.out.free 5 (by show 5 < 6; decide)
    have hsz := HB.out.size
    go_wp2_with fail
    all_goals
      refine bodyPost_ret (ret_cell2 rfl _ _ ⟨w.heap.size, 0, none⟩ _ rfl (put_c6 0 0 0 0 0 ⟨#[]⟩ HX.out)) rfl ?_
      unfold OptPost
      rw [HO.out]
      exact ⟨rfl, Sty.below6 _ ⟨0, 0, 0, 0, 0, ⟨#[]⟩⟩ HB.out (Nat.le_refl _)⟩
set_option maxRecDepth 100000 in
set_option maxHeartbeats 4000000 in
theorem col_3yany (A : Option Addr) (c : Nat) (a b x : Int) (w : World) (h : RI w (.slice A 3 c) [a, b, x]) (hw : 0 ≤ whV a) (hy : [x].any noB = true) : Calls Tryd.prog 95 #[.slice A 3 c] w (OptPost w (colO [a, b, x])) := by
  obtain ⟨O, hO⟩ : ∃ O, O = colO [a, b, x] := ⟨_, rfl⟩
  have HO := Lib.hid (hO.trans (show colO [a, b, x] = none from colR_any hy))
  rw [← hO]
  clear hO
  have hcc : 3 ≤ c := by obtain ⟨A0, c0, he, hc, -⟩ := h; cases he; exact hc
  obtain ⟨ad, hA0, hbl0, hc0⟩ := cell_i h 0 (by decide)
  cases hA0
  obtain ⟨ad1, hA1, hbl1, hc1⟩ := cell_i h 1 (by decide)
  cases hA1
  obtain ⟨ad2, hA2, hbl2, hc2⟩ := cell_i h 2 (by decide)
  cases hA2
  rw [add_nil] at hc0
  rw [add_pos ad 1 (by decide)] at hc1
  rw [add_pos ad 2 (by decide)] at hc2
  have hb0 := below_box w (.cells #[.int .i64 0, .int .i64 0, .int .i64 0, .int .i64 0, .int .i64 0, .string ⟨#[]⟩] 48)
  have hX : Sty.Box (w.alloc (.cells #[.int .i64 0, .int .i64 0, .int .i64 0, .int .i64 0, .int .i64 0, .string ⟨#[]⟩] 48)) w.heap.size (Sty.cP zP) := Sty.Box.new _ _ _
  have d0 := (hb0.cell (p := ad) hbl0).trans hc0
  have d1 := (hb0.cell (p := ⟨ad.block, ad.off + 1, none⟩) (by show ad.block < w.heap.size; exact hbl0)).trans hc1
  have d2 := (hb0.cell (p := ⟨ad.block, ad.off + 2, none⟩) (by show ad.block < w.heap.size; exact hbl0)).trans hc2
  have HX := Lib.hid hX; clear hX
  have HB := Lib.hid hb0; clear hb0
  have HR := Lib.hid ((rd_at (c := c) (show RI w (.slice (some ad) [a, b, x].length c) [a, b, x] from h) 2 (by decide)).below HB.out)
  have HP := Lib.hid (fun W => colorPen_yes a hw W)
  clear h hc0 hc1 hc2 hbl0 hbl1 hbl2 hw
  go_enter Tryd.func95, Tryd.ntmps95
  go_upto_region 1 with fail
  obtain ⟨w1, hw1⟩ : ∃ W, W = w.alloc (.cells #[.int .i64 0, .int .i64 0, .int .i64 0, .int .i64 0, .int .i64 0, .string ⟨#[]⟩] 48) := ⟨_, rfl⟩
  rw [← hw1] at HX HB d0 d1 d2 HR ⊢
  clear hw1
  have HX := Lib.hid HX.out.drew
  have HB := Lib.hid HB.out.drew
  have HR := Lib.hid (HR.out.below ((Below.refl _ w1).drew))
  have e1 : w1.drew.cell? ⟨ad.block, ad.off + 1, none⟩ = some (.int .i64 b) := d1
  have e2 : w1.drew.cell? ⟨ad.block, ad.off + 2, none⟩ = some (.int .i64 x) := d2
  go_upto_region 2 with (go_at_call 92; refine (HP.out _).mono ?_; rintro e w2 ⟨rfl, rfl⟩)
  go_region
  all_goals
    clear d0 d1 d2
    go_wp2_with (go_at_call 73; refine (containsB_any _ 1 _ [x] _ rfl (HR.out) (by decide)).mono ?_; rw [hy]; rintro e w3 ⟨rfl, hb3⟩; have HX := Lib.hid (HX.out.keep hb3); have HB := Lib.hid (Par.up HB.out hb3); have hsz := HB.out.size; have z0 := HX.out.cell 0 _ rfl; have f0 := HX.out.free 0 (by show 0 < 6; decide); have z1 := HX.out.cell 1 _ rfl; have f1 := HX.out.free 1 (by show 1 < 6; decide); have z2 := HX.out.cell 2 _ rfl; have f2 := HX.out.free 2 (by show 2 < 6; decide); have z3 := HX.out.cell 3 _ rfl; have f3 := HX.out.free 3 (by show 3 < 6; decide); have z4 := HX.out.cell 4 _ rfl; have f4 := HX.out.free 4 (by show 4 < 6; decide); have z5 := HX.out.cell 5 _ rfl; have f5 := HX.out.free 5 (by show 5 < 6; decide))
    all_goals
      refine bodyPost_ret (ret_cell2 rfl _ _ ⟨w.heap.size, 0, none⟩ _ rfl (put_c6 0 0 0 0 0 ⟨#[]⟩ HX.out)) rfl ?_
      unfold OptPost
      rw [HO.out]
      exact ⟨rfl, Sty.below6 _ ⟨0, 0, 0, 0, 0, ⟨#[]⟩⟩ HB.out (Nat.le_refl _)⟩
set_option maxRecDepth 100000 in
set_option maxHeartbeats 4000000 in
theorem col_3ynone (A : Option Addr) (c : Nat) (a b x : Int) (w : World) (h : RI w (.slice A 3 c) [a, b, x]) (hw : 0 ≤ whV a) (hy : [x].any noB = false) (hb : b ≠ 5) : Calls Tryd.prog 95 #[.slice A 3 c] w (OptPost w (colO [a, b, x])) := by
  obtain ⟨O, hO⟩ : ∃ O, O = colO [a, b, x] := ⟨_, rfl⟩
  have HO := Lib.hid (hO.trans (show colO [a, b, x] = none from colR_none (by rintro ⟨h1, h2⟩; exact hb h1) (by rintro ⟨h1, h2⟩; exact absurd (show 1 = 3 from h2) (by decide))))
  rw [← hO]
  clear hO
  have hcc : 3 ≤ c := by obtain ⟨A0, c0, he, hc, -⟩ := h; cases he; exact hc
  obtain ⟨ad, hA0, hbl0, hc0⟩ := cell_i h 0 (by decide)
  cases hA0
  obtain ⟨ad1, hA1, hbl1, hc1⟩ := cell_i h 1 (by decide)
  cases hA1
  obtain ⟨ad2, hA2, hbl2, hc2⟩ := cell_i h 2 (by decide)
  cases hA2
  rw [add_nil] at hc0
  rw [add_pos ad 1 (by decide)] at hc1
  rw [add_pos ad 2 (by decide)] at hc2
  have hb0 := below_box w (.cells #[.int .i64 0, .int .i64 0, .int .i64 0, .int .i64 0, .int .i64 0, .string ⟨#[]⟩] 48)
  have hX : Sty.Box (w.alloc (.cells #[.int .i64 0, .int .i64 0, .int .i64 0, .int .i64 0, .int .i64 0, .string ⟨#[]⟩] 48)) w.heap.size (Sty.cP zP) := Sty.Box.new _ _ _
  have d0 := (hb0.cell (p := ad) hbl0).trans hc0
  have d1 := (hb0.cell (p := ⟨ad.block, ad.off + 1, none⟩) (by show ad.block < w.heap.size; exact hbl0)).trans hc1
  have d2 := (hb0.cell (p := ⟨ad.block, ad.off + 2, none⟩) (by show ad.block < w.heap.size; exact hbl0)).trans hc2
  have HX := Lib.hid hX; clear hX
  have HB := Lib.hid hb0; clear hb0
  have HR := Lib.hid ((rd_at (c := c) (show RI w (.slice (some ad) [a, b, x].length c) [a, b, x] from h) 2 (by decide)).below HB.out)
  have HP := Lib.hid (fun W => colorPen_yes a hw W)
  clear h hc0 hc1 hc2 hbl0 hbl1 hbl2 hw
  go_enter Tryd.func95, Tryd.ntmps95
  go_upto_region 1 with fail
  obtain ⟨w1, hw1⟩ : ∃ W, W = w.alloc (.cells #[.int .i64 0, .int .i64 0, .int .i64 0, .int .i64 0, .int .i64 0, .string ⟨#[]⟩] 48) := ⟨_, rfl⟩
  rw [← hw1] at HX HB d0 d1 d2 HR ⊢
  clear hw1
  have HX := Lib.hid HX.out.drew
  have HB := Lib.hid HB.out.drew
  have HR := Lib.hid (HR.out.below ((Below.refl _ w1).drew))
  have e1 : w1.drew.cell? ⟨ad.block, ad.off + 1, none⟩ = some (.int .i64 b) := d1
  have e2 : w1.drew.cell? ⟨ad.block, ad.off + 2, none⟩ = some (.int .i64 x) := d2
  go_upto_region 2 with (go_at_call 92; refine (HP.out _).mono ?_; rintro e w2 ⟨rfl, rfl⟩)
  go_region
  all_goals
    clear d0 d1 d2
    go_wp2_with (go_at_call 73; refine (containsB_any _ 1 _ [x] _ rfl (HR.out) (by decide)).mono ?_; rw [hy]; rintro e w3 ⟨rfl, hb3⟩; have HX := Lib.hid (HX.out.keep hb3); have HB := Lib.hid (Par.up HB.out hb3); have hsz := HB.out.size; have z0 := HX.out.cell 0 _ rfl; have f0 := HX.out.free 0 (by show 0 < 6; decide); have z1 := HX.out.cell 1 _ rfl; have f1 := HX.out.free 1 (by show 1 < 6; decide); have z2 := HX.out.cell 2 _ rfl; have f2 := HX.out.free 2 (by show 2 < 6; decide); have z3 := HX.out.cell 3 _ rfl; have f3 := HX.out.free 3 (by show 3 < 6; decide); have z4 := HX.out.cell 4 _ rfl; have f4 := HX.out.free 4 (by show 4 < 6; decide); have z5 := HX.out.cell 5 _ rfl; have f5 := HX.out.free 5 (by show 5 < 6; decide))
    all_goals
      refine bodyPost_ret (ret_cell2 rfl _ _ ⟨w.heap.size, 0, none⟩ _ rfl (put_c6 0 0 0 0 0 ⟨#[]⟩ HX.out)) rfl ?_
      unfold OptPost
      rw [HO.out]
      exact ⟨rfl, Sty.below6 _ ⟨0, 0, 0, 0, 0, ⟨#[]⟩⟩ HB.out (Nat.le_refl _)⟩
set_option maxRecDepth 100000 in
set_option maxHeartbeats 4000000 in
theorem col_3ypen (A : Option Addr) (c : Nat) (a x : Int) (w : World) (h : RI w (.slice A 3 c) [a, 5, x]) (hw : 0 ≤ whV a) (hy : [x].any noB = false) : Calls Tryd.prog 95 #[.slice A 3 c] w (OptPost w (colO [a, 5, x])) := by
  obtain ⟨O, hO⟩ : ∃ O, O = colO [a, 5, x] := ⟨_, rfl⟩
  have HO := Lib.hid (hO.trans (show colO [a, 5, x] = some (cq (whV a) 1 x) from colR_5 hw hy))
  rw [← hO]
  clear hO
  have hcc : 3 ≤ c := by obtain ⟨A0, c0, he, hc, -⟩ := h; cases he; exact hc
  obtain ⟨ad, hA0, hbl0, hc0⟩ := cell_i h 0 (by decide)
  cases hA0
  obtain ⟨ad1, hA1, hbl1, hc1⟩ := cell_i h 1 (by decide)
  cases hA1
  obtain ⟨ad2, hA2, hbl2, hc2⟩ := cell_i h 2 (by decide)
  cases hA2
  rw [add_nil] at hc0
  rw [add_pos ad 1 (by decide)] at hc1
  rw [add_pos ad 2 (by decide)] at hc2
  have hb0 := below_box w (.cells #[.int .i64 0, .int .i64 0, .int .i64 0, .int .i64 0, .int .i64 0, .string ⟨#[]⟩] 48)
  have hX : Sty.Box (w.alloc (.cells #[.int .i64 0, .int .i64 0, .int .i64 0, .int .i64 0, .int .i64 0, .string ⟨#[]⟩] 48)) w.heap.size (Sty.cP zP) := Sty.Box.new _ _ _
  have d0 := (hb0.cell (p := ad) hbl0).trans hc0
  have d1 := (hb0.cell (p := ⟨ad.block, ad.off + 1, none⟩) (by show ad.block < w.heap.size; exact hbl0)).trans hc1
  have d2 := (hb0.cell (p := ⟨ad.block, ad.off + 2, none⟩) (by show ad.block < w.heap.size; exact hbl0)).trans hc2
  have HX := Lib.hid hX; clear hX
  have HB := Lib.hid hb0; clear hb0
  have HR := Lib.hid ((rd_at (c := c) (show RI w (.slice (some ad) [a, 5, x].length c) [a, 5, x] from h) 2 (by decide)).below HB.out)
  have HP := Lib.hid (fun W => colorPen_yes a hw W)
  clear h hc0 hc1 hc2 hbl1 hbl2 hw
  go_enter Tryd.func95, Tryd.ntmps95
  go_upto_region 1 with fail
  obtain ⟨w1, hw1⟩ : ∃ W, W = w.alloc (.cells #[.int .i64 0, .int .i64 0, .int .i64 0, .int .i64 0, .int .i64 0, .string ⟨#[]⟩] 48) := ⟨_, rfl⟩
  rw [← hw1] at HX HB d0 d1 d2 HR ⊢
  clear hw1
  have HX := Lib.hid HX.out.drew
  have HB := Lib.hid HB.out.drew
  have HR := Lib.hid (HR.out.below ((Below.refl _ w1).drew))
  have e1 : w1.drew.cell? ⟨ad.block, ad.off + 1, none⟩ = some (.int .i64 5) := d1
  have e2 : w1.drew.cell? ⟨ad.block, ad.off + 2, none⟩ = some (.int .i64 x) := d2
  go_upto_region 2 with (go_at_call 92; refine (HP.out _).mono ?_; rintro e w2 ⟨rfl, rfl⟩)
  go_region
  have hadb := Nat.lt_of_lt_of_le hbl0 HB.out.size
  all_goals
    clear d0 d1 d2
    go_wp2_with (first | (go_at_call 73; refine (containsB_any _ 1 _ [x] _ rfl (HR.out) (by decide)).mono ?_; rw [hy]; rintro e w3 ⟨rfl, hb3⟩; have HX := Lib.hid (HX.out.keep hb3); have HB := Lib.hid (Par.up HB.out hb3); have hsz := HB.out.size; have z0 := HX.out.cell 0 _ rfl; have f0 := HX.out.free 0 (by show 0 < 6; decide); have z1 := HX.out.cell 1 _ rfl; have f1 := HX.out.free 1 (by show 1 < 6; decide); have z2 := HX.out.cell 2 _ rfl; have f2 := HX.out.free 2 (by show 2 < 6; decide); have z3 := HX.out.cell 3 _ rfl; have f3 := HX.out.free 3 (by show 3 < 6; decide); have z4 := HX.out.cell 4 _ rfl; have f4 := HX.out.free 4 (by show 4 < 6; decide); have z5 := HX.out.cell 5 _ rfl; have f5 := HX.out.free 5 (by show 5 < 6; decide); have q2 : w3.cell? ⟨ad.block, ad.off + 2, none⟩ = some (.int .i64 x) := (hb3.cell (p := ⟨ad.block, ad.off + 2, none⟩) hadb).trans e2) | (go_at_call 88; refine (colored_any _ _ _ _).mono ?_; unfold qV cq; rintro e w4 ⟨rfl, hb4⟩; have HX := Lib.hid (HX.out.keep hb4); have HB := Lib.hid (Par.up HB.out hb4); have hsz := HB.out.size; have z0 := HX.out.cell 0 _ rfl; have f0 := HX.out.free 0 (by show 0 < 6; decide); have z1 := HX.out.cell 1 _ rfl; have f1 := HX.out.free 1 (by show 1 < 6; decide); have z2 := HX.out.cell 2 _ rfl; have f2 := HX.out.free 2 (by show 2 < 6; decide); have z3 := HX.out.cell 3 _ rfl; have f3 := HX.out.free 3 (by show 3 < 6; decide); have z4 := HX.out.cell 4 _ rfl; have f4 := HX.out.free 4 (by show 4 < 6; decide); have z5 := HX.out.cell 5 _ rfl; have f5 := HX.out.free 5 (by show 5 < 6; decide)))
    all_goals
      refine bodyPost_ret (ret_cell2 rfl _ _ ⟨w.heap.size, 0, none⟩ _ rfl (put_c6 39 (whV a) 0 1 x ⟨#[]⟩ HX.out)) rfl ?_
      unfold OptPost
      rw [HO.out]
      exact ⟨rfl, Sty.below6 _ ⟨39, (whV a), 0, 1, x, ⟨#[]⟩⟩ HB.out (Nat.le_refl _)⟩
set_option maxRecDepth 100000 in
set_option maxHeartbeats 4000000 in
theorem col_4n (A : Option Addr) (c : Nat) (a b x y : Int) (w : World) (h : RI w (.slice A 4 c) [a, b, x, y]) (hw : whV a < 0) : Calls Tryd.prog 95 #[.slice A 4 c] w (OptPost w (colO [a, b, x, y])) := by
  obtain ⟨O, hO⟩ : ∃ O, O = colO [a, b, x, y] := ⟨_, rfl⟩
  have HO := Lib.hid (hO.trans (show colO [a, b, x, y] = none from colR_no hw))
  rw [← hO]
  clear hO
  have hcc : 4 ≤ c := by obtain ⟨A0, c0, he, hc, -⟩ := h; cases he; exact hc
  obtain ⟨ad, hA0, hbl0, hc0⟩ := cell_i h 0 (by decide)
  cases hA0
  obtain ⟨ad1, hA1, hbl1, hc1⟩ := cell_i h 1 (by decide)
  cases hA1
  obtain ⟨ad2, hA2, hbl2, hc2⟩ := cell_i h 2 (by decide)
  cases hA2
  obtain ⟨ad3, hA3, hbl3, hc3⟩ := cell_i h 3 (by decide)
  cases hA3
  rw [add_nil] at hc0
  rw [add_pos ad 1 (by decide)] at hc1
  rw [add_pos ad 2 (by decide)] at hc2
  rw [add_pos ad 3 (by decide)] at hc3
  have hb0 := below_box w (.cells #[.int .i64 0, .int .i64 0, .int .i64 0, .int .i64 0, .int .i64 0, .string ⟨#[]⟩] 48)
  have hX : Sty.Box (w.alloc (.cells #[.int .i64 0, .int .i64 0, .int .i64 0, .int .i64 0, .int .i64 0, .string ⟨#[]⟩] 48)) w.heap.size (Sty.cP zP) := Sty.Box.new _ _ _
  have d0 := (hb0.cell (p := ad) hbl0).trans hc0
  have d1 := (hb0.cell (p := ⟨ad.block, ad.off + 1, none⟩) (by show ad.block < w.heap.size; exact hbl0)).trans hc1
  have d2 := (hb0.cell (p := ⟨ad.block, ad.off + 2, none⟩) (by show ad.block < w.heap.size; exact hbl0)).trans hc2
  have d3 := (hb0.cell (p := ⟨ad.block, ad.off + 3, none⟩) (by show ad.block < w.heap.size; exact hbl0)).trans hc3
  have HX := Lib.hid hX; clear hX
  have HB := Lib.hid hb0; clear hb0
  have HR := Lib.hid ((rd_at (c := c) (show RI w (.slice (some ad) [a, b, x, y].length c) [a, b, x, y] from h) 2 (by decide)).below HB.out)
  have HP := Lib.hid (fun W => colorPen_no a hw W)
  clear h hc0 hc1 hc2 hc3 hbl0 hbl1 hbl2 hbl3 hw
  go_enter Tryd.func95, Tryd.ntmps95
  go_upto_region 1 with fail
  obtain ⟨w1, hw1⟩ : ∃ W, W = w.alloc (.cells #[.int .i64 0, .int .i64 0, .int .i64 0, .int .i64 0, .int .i64 0, .string ⟨#[]⟩] 48) := ⟨_, rfl⟩
  rw [← hw1] at HX HB d0 d1 d2 d3 HR ⊢
  clear hw1
  have HX := Lib.hid HX.out.drew
  have HB := Lib.hid HB.out.drew
  have HR := Lib.hid (HR.out.below ((Below.refl _ w1).drew))
  have e1 : w1.drew.cell? ⟨ad.block, ad.off + 1, none⟩ = some (.int .i64 b) := d1
  have e2 : w1.drew.cell? ⟨ad.block, ad.off + 2, none⟩ = some (.int .i64 x) := d2
  have e3 : w1.drew.cell? ⟨ad.block, ad.off + 3, none⟩ = some (.int .i64 y) := d3
  go_upto_region 2 with (go_at_call 92; refine (HP.out _).mono ?_; rintro e w2 ⟨rfl, rfl⟩)
  go_region
  all_goals
    clear d0 d1 d2 d3 e1 e2 e3 HR
    generalize w1.drew = w2 at HX HB ⊢
    have z0 := HX.out.cell 0 _ rfl
    have f0 := HX.out.free 0 (by show 0 < 6; decide)
    have z1 := HX.out.cell 1 _ rfl
    have f1 := HX.out.free 1 (by show 1 < 6; decide)
    have z2 := HX.out.cell 2 _ rfl
    have f2 := HX.out.free 2 (by show 2 < 6; decide)
    have z3 := HX.out.cell 3 _ rfl
    have f3 := HX.out.free 3 (by show 3 < 6; decide)
    have z4 := HX.out.cell 4 _ rfl
    have f4 := HX.out.free 4 (by show 4 < 6; decide)
    have z5 := HX.out.cell 5 _ rfl
    have f5 := HX.out.free 5 (by show 5 < 6; decide)
    have hsz := HB.out.size
    go_wp2_with fail
    all_goals
      refine bodyPost_ret (ret_cell2 rfl _ _ ⟨w.heap.size, 0, none⟩ _ rfl (put_c6 0 0 0 0 0 ⟨#[]⟩ HX.out)) rfl ?_
      unfold OptPost
      rw [HO.out]
      exact ⟨rfl, Sty.below6 _ ⟨0, 0, 0, 0, 0, ⟨#[]⟩⟩ HB.out (Nat.le_refl _)⟩
set_option maxRecDepth 100000 in
set_option maxHeartbeats 4000000 in
theorem col_4yany (A : Option Addr) (c : Nat) (a b x y : Int) (w : World) (h : RI w (.slice A 4 c) [a, b, x, y]) (hw : 0 ≤ whV a) (hy : [x, y].any noB = true) : Calls Tryd.prog 95 #[.slice A 4 c] w (OptPost w (colO [a, b, x, y])) := by
  obtain ⟨O, hO⟩ : ∃ O, O = colO [a, b, x, y] := ⟨_, rfl⟩
  have HO := Lib.hid (hO.trans (show colO [a, b, x, y] = none from colR_any hy))
  rw [← hO]
  clear hO
  have hcc : 4 ≤ c := by obtain ⟨A0, c0, he, hc, -⟩ := h; cases he; exact hc
  obtain ⟨ad, hA0, hbl0, hc0⟩ := cell_i h 0 (by decide)
  cases hA0
  obtain ⟨ad1, hA1, hbl1, hc1⟩ := cell_i h 1 (by decide)
  cases hA1
  obtain ⟨ad2, hA2, hbl2, hc2⟩ := cell_i h 2 (by decide)
  cases hA2
  obtain ⟨ad3, hA3, hbl3, hc3⟩ := cell_i h 3 (by decide)
  cases hA3
  rw [add_nil] at hc0
  rw [add_pos ad 1 (by decide)] at hc1
  rw [add_pos ad 2 (by decide)] at hc2
  rw [add_pos ad 3 (by decide)] at hc3
  have hb0 := below_box w (.cells #[.int .i64 0, .int .i64 0, .int .i64 0, .int .i64 0, .int .i64 0, .string ⟨#[]⟩] 48)
  have hX : Sty.Box (w.alloc (.cells #[.int .i64 0, .int .i64 0, .int .i64 0, .int .i64 0, .int .i64 0, .string ⟨#[]⟩] 48)) w.heap.size (Sty.cP zP) := Sty.Box.new _ _ _
  have d0 := (hb0.cell (p := ad) hbl0).trans hc0
  have d1 := (hb0.cell (p := ⟨ad.block, ad.off + 1, none⟩) (by show ad.block < w.heap.size; exact hbl0)).trans hc1
  have d2 := (hb0.cell (p := ⟨ad.block, ad.off + 2, none⟩) (by show ad.block < w.heap.size; exact hbl0)).trans hc2
  have d3 := (hb0.cell (p := ⟨ad.block, ad.off + 3, none⟩) (by show ad.block < w.heap.size; exact hbl0)).trans hc3
  have HX := Lib.hid hX; clear hX
  have HB := Lib.hid hb0; clear hb0
  have HR := Lib.hid ((rd_at (c := c) (show RI w (.slice (some ad) [a, b, x, y].length c) [a, b, x, y] from h) 2 (by decide)).below HB.out)
  have HP := Lib.hid (fun W => colorPen_yes a hw W)
  clear h hc0 hc1 hc2 hc3 hbl0 hbl1 hbl2 hbl3 hw
  go_enter Tryd.func95, Tryd.ntmps95
  go_upto_region 1 with fail
  obtain ⟨w1, hw1⟩ : ∃ W, W = w.alloc (.cells #[.int .i64 0, .int .i64 0, .int .i64 0, .int .i64 0, .int .i64 0, .string ⟨#[]⟩] 48) := ⟨_, rfl⟩
  rw [← hw1] at HX HB d0 d1 d2 d3 HR ⊢
  clear hw1
  have HX := Lib.hid HX.out.drew
  have HB := Lib.hid HB.out.drew
  have HR := Lib.hid (HR.out.below ((Below.refl _ w1).drew))
  have e1 : w1.drew.cell? ⟨ad.block, ad.off + 1, none⟩ = some (.int .i64 b) := d1
  have e2 : w1.drew.cell? ⟨ad.block, ad.off + 2, none⟩ = some (.int .i64 x) := d2
  have e3 : w1.drew.cell? ⟨ad.block, ad.off + 3, none⟩ = some (.int .i64 y) := d3
  go_upto_region 2 with (go_at_call 92; refine (HP.out _).mono ?_; rintro e w2 ⟨rfl, rfl⟩)
  go_region
  all_goals
    clear d0 d1 d2 d3
    go_wp2_with (go_at_call 73; refine (containsB_any _ 2 _ [x, y] _ rfl (HR.out) (by decide)).mono ?_; rw [hy]; rintro e w3 ⟨rfl, hb3⟩; have HX := Lib.hid (HX.out.keep hb3); have HB := Lib.hid (Par.up HB.out hb3); have hsz := HB.out.size; have z0 := HX.out.cell 0 _ rfl; have f0 := HX.out.free 0 (by show 0 < 6; decide); have z1 := HX.out.cell 1 _ rfl; have f1 := HX.out.free 1 (by show 1 < 6; decide); have z2 := HX.out.cell 2 _ rfl; have f2 := HX.out.free 2 (by show 2 < 6; decide); have z3 := HX.out.cell 3 _ rfl; have f3 := HX.out.free 3 (by show 3 < 6; decide); have z4 := HX.out.cell 4 _ rfl; have f4 := HX.out.free 4 (by show 4 < 6; decide); have z5 := HX.out.cell 5 _ rfl; have f5 := HX.out.free 5 (by show 5 < 6; decide))
    all_goals
      refine bodyPost_ret (ret_cell2 rfl _ _ ⟨w.heap.size, 0, none⟩ _ rfl (put_c6 0 0 0 0 0 ⟨#[]⟩ HX.out)) rfl ?_
      unfold OptPost
      rw [HO.out]
      exact ⟨rfl, Sty.below6 _ ⟨0, 0, 0, 0, 0, ⟨#[]⟩⟩ HB.out (Nat.le_refl _)⟩
set_option maxRecDepth 100000 in
set_option maxHeartbeats 4000000 in
theorem col_4ynone (A : Option Addr) (c : Nat) (a b x y : Int) (w : World) (h : RI w (.slice A 4 c) [a, b, x, y]) (hw : 0 ≤ whV a) (hy : [x, y].any noB = false) : Calls Tryd.prog 95 #[.slice A 4 c] w (OptPost w (colO [a, b, x, y])) := by
  obtain ⟨O, hO⟩ : ∃ O, O = colO [a, b, x, y] := ⟨_, rfl⟩
  have HO := Lib.hid (hO.trans (show colO [a, b, x, y] = none from colR_none (by rintro ⟨h1, h2⟩; exact absurd (show 2 = 1 from h2) (by decide)) (by rintro ⟨h1, h2⟩; exact absurd (show 2 = 3 from h2) (by decide))))
  rw [← hO]
  clear hO
  have hcc : 4 ≤ c := by obtain ⟨A0, c0, he, hc, -⟩ := h; cases he; exact hc
  obtain ⟨ad, hA0, hbl0, hc0⟩ := cell_i h 0 (by decide)
  cases hA0
  obtain ⟨ad1, hA1, hbl1, hc1⟩ := cell_i h 1 (by decide)
  cases hA1
  obtain ⟨ad2, hA2, hbl2, hc2⟩ := cell_i h 2 (by decide)
  cases hA2
  obtain ⟨ad3, hA3, hbl3, hc3⟩ := cell_i h 3 (by decide)
  cases hA3
  rw [add_nil] at hc0
  rw [add_pos ad 1 (by decide)] at hc1
  rw [add_pos ad 2 (by decide)] at hc2
  rw [add_pos ad 3 (by decide)] at hc3
  have hb0 := below_box w (.cells #[.int .i64 0, .int .i64 0, .int .i64 0, .int .i64 0, .int .i64 0, .string ⟨#[]⟩] 48)
  have hX : Sty.Box (w.alloc (.cells #[.int .i64 0, .int .i64 0, .int .i64 0, .int .i64 0, .int .i64 0, .string ⟨#[]⟩] 48)) w.heap.size (Sty.cP zP) := Sty.Box.new _ _ _
  have d0 := (hb0.cell (p := ad) hbl0).trans hc0
  have d1 := (hb0.cell (p := ⟨ad.block, ad.off + 1, none⟩) (by show ad.block < w.heap.size; exact hbl0)).trans hc1
  have d2 := (hb0.cell (p := ⟨ad.block, ad.off + 2, none⟩) (by show ad.block < w.heap.size; exact hbl0)).trans hc2
  have d3 := (hb0.cell (p := ⟨ad.block, ad.off + 3, none⟩) (by show ad.block < w.heap.size; exact hbl0)).trans hc3
  have HX := Lib.hid hX; clear hX
  have HB := Lib.hid hb0; clear hb0
  have HR := Lib.hid ((rd_at (c := c) (show RI w (.slice (some ad) [a, b, x, y].length c) [a, b, x, y] from h) 2 (by decide)).below HB.out)
  have HP := Lib.hid (fun W => colorPen_yes a hw W)
  clear h hc0 hc1 hc2 hc3 hbl0 hbl1 hbl2 hbl3 hw
  go_enter Tryd.func95, Tryd.ntmps95
  go_upto_region 1 with fail
  obtain ⟨w1, hw1⟩ : ∃ W, W = w.alloc (.cells #[.int .i64 0, .int .i64 0, .int .i64 0, .int .i64 0, .int .i64 0, .string ⟨#[]⟩] 48) := ⟨_, rfl⟩
  rw [← hw1] at HX HB d0 d1 d2 d3 HR ⊢
  clear hw1
  have HX := Lib.hid HX.out.drew
  have HB := Lib.hid HB.out.drew
  have HR := Lib.hid (HR.out.below ((Below.refl _ w1).drew))
  have e1 : w1.drew.cell? ⟨ad.block, ad.off + 1, none⟩ = some (.int .i64 b) := d1
  have e2 : w1.drew.cell? ⟨ad.block, ad.off + 2, none⟩ = some (.int .i64 x) := d2
  have e3 : w1.drew.cell? ⟨ad.block, ad.off + 3, none⟩ = some (.int .i64 y) := d3
  go_upto_region 2 with (go_at_call 92; refine (HP.out _).mono ?_; rintro e w2 ⟨rfl, rfl⟩)
  go_region
  all_goals
    clear d0 d1 d2 d3
    go_wp2_with (go_at_call 73; refine (containsB_any _ 2 _ [x, y] _ rfl (HR.out) (by decide)).mono ?_; rw [hy]; rintro e w3 ⟨rfl, hb3⟩; have HX := Lib.hid (HX.out.keep hb3); have HB := Lib.hid (Par.up HB.out hb3); have hsz := HB.out.size; have z0 := HX.out.cell 0 _ rfl; have f0 := HX.out.free 0 (by show 0 < 6; decide); have z1 := HX.out.cell 1 _ rfl; have f1 := HX.out.free 1 (by show 1 < 6; decide); have z2 := HX.out.cell 2 _ rfl; have f2 := HX.out.free 2 (by show 2 < 6; decide); have z3 := HX.out.cell 3 _ rfl; have f3 := HX.out.free 3 (by show 3 < 6; decide); have z4 := HX.out.cell 4 _ rfl; have f4 := HX.out.free 4 (by show 4 < 6; decide); have z5 := HX.out.cell 5 _ rfl; have f5 := HX.out.free 5 (by show 5 < 6; decide))
    all_goals
      refine bodyPost_ret (ret_cell2 rfl _ _ ⟨w.heap.size, 0, none⟩ _ rfl (put_c6 0 0 0 0 0 ⟨#[]⟩ HX.out)) rfl ?_
      unfold OptPost
      rw [HO.out]
      exact ⟨rfl, Sty.below6 _ ⟨0, 0, 0, 0, 0, ⟨#[]⟩⟩ HB.out (Nat.le_refl _)⟩
set_option maxRecDepth 100000 in
set_option maxHeartbeats 4000000 in
theorem col_5n (A : Option Addr) (c : Nat) (a b x y z : Int) (w : World) (h : RI w (.slice A 5 c) [a, b, x, y, z]) (hw : whV a < 0) : Calls Tryd.prog 95 #[.slice A 5 c] w (OptPost w (colO [a, b, x, y, z])) := by
  obtain ⟨O, hO⟩ : ∃ O, O = colO [a, b, x, y, z] := ⟨_, rfl⟩
  have HO := Lib.hid (hO.trans (show colO [a, b, x, y, z] = none from colR_no hw))
  rw [← hO]
  clear hO
  have hcc : 5 ≤ c := by obtain ⟨A0, c0, he, hc, -⟩ := h; cases he; exact hc
  obtain ⟨ad, hA0, hbl0, hc0⟩ := cell_i h 0 (by decide)
  cases hA0
  obtain ⟨ad1, hA1, hbl1, hc1⟩ := cell_i h 1 (by decide)
  cases hA1
  obtain ⟨ad2, hA2, hbl2, hc2⟩ := cell_i h 2 (by decide)
  cases hA2
  obtain ⟨ad3, hA3, hbl3, hc3⟩ := cell_i h 3 (by decide)
  cases hA3
  obtain ⟨ad4, hA4, hbl4, hc4⟩ := cell_i h 4 (by decide)
  cases hA4
  rw [add_nil] at hc0
  rw [add_pos ad 1 (by decide)] at hc1
  rw [add_pos ad 2 (by decide)] at hc2
  rw [add_pos ad 3 (by decide)] at hc3
  rw [add_pos ad 4 (by decide)] at hc4
  have hb0 := below_box w (.cells #[.int .i64 0, .int .i64 0, .int .i64 0, .int .i64 0, .int .i64 0, .string ⟨#[]⟩] 48)
  have hX : Sty.Box (w.alloc (.cells #[.int .i64 0, .int .i64 0, .int .i64 0, .int .i64 0, .int .i64 0, .string ⟨#[]⟩] 48)) w.heap.size (Sty.cP zP) := Sty.Box.new _ _ _
  have d0 := (hb0.cell (p := ad) hbl0).trans hc0
  have d1 := (hb0.cell (p := ⟨ad.block, ad.off + 1, none⟩) (by show ad.block < w.heap.size; exact hbl0)).trans hc1
  have d2 := (hb0.cell (p := ⟨ad.block, ad.off + 2, none⟩) (by show ad.block < w.heap.size; exact hbl0)).trans hc2
  have d3 := (hb0.cell (p := ⟨ad.block, ad.off + 3, none⟩) (by show ad.block < w.heap.size; exact hbl0)).trans hc3
  have d4 := (hb0.cell (p := ⟨ad.block, ad.off + 4, none⟩) (by show ad.block < w.heap.size; exact hbl0)).trans hc4
  have HX := Lib.hid hX; clear hX
  have HB := Lib.hid hb0; clear hb0
  have HR := Lib.hid ((rd_at (c := c) (show RI w (.slice (some ad) [a, b, x, y, z].length c) [a, b, x, y, z] from h) 2 (by decide)).below HB.out)
  have HP := Lib.hid (fun W => colorPen_no a hw W)
  clear h hc0 hc1 hc2 hc3 hc4 hbl0 hbl1 hbl2 hbl3 hbl4 hw
  go_enter Tryd.func95, Tryd.ntmps95
  go_upto_region 1 with fail
  obtain ⟨w1, hw1⟩ : ∃ W, W = w.alloc (.cells #[.int .i64 0, .int .i64 0, .int .i64 0, .int .i64 0, .int .i64 0, .string ⟨#[]⟩] 48) := ⟨_, rfl⟩
  rw [← hw1] at HX HB d0 d1 d2 d3 d4 HR ⊢
  clear hw1
  have HX := Lib.hid HX.out.drew
  have HB := Lib.hid HB.out.drew
  have HR := Lib.hid (HR.out.below ((Below.refl _ w1).drew))
  have e1 : w1.drew.cell? ⟨ad.block, ad.off + 1, none⟩ = some (.int .i64 b) := d1
  have e2 : w1.drew.cell? ⟨ad.block, ad.off + 2, none⟩ = some (.int .i64 x) := d2
  have e3 : w1.drew.cell? ⟨ad.block, ad.off + 3, none⟩ = some (.int .i64 y) := d3
  have e4 : w1.drew.cell? ⟨ad.block, ad.off + 4, none⟩ = some (.int .i64 z) := d4
  go_upto_region 2 with (go_at_call 92; refine (HP.out _).mono ?_; rintro e w2 ⟨rfl, rfl⟩)
  go_region
  all_goals
    clear d0 d1 d2 d3 d4 e1 e2 e3 e4 HR
    generalize w1.drew = w2 at HX HB ⊢
    have z0 := HX.out.cell 0 _ rfl
    have f0 := HX.out.free 0 (by show 0 < 6; decide)
    have z1 := HX.out.cell 1 _ rfl
    have f1 := HX.out.free 1 (by show 1 < 6; decide)
    have z2 := HX.out.cell 2 _ rfl
    have f2 := HX.out.free 2 (by show 2 < 6; decide)
    have z3 := HX.out.cell 3 _ rfl
    have f3 := HX.out.free 3 (by show 3 < 6; decide)
    have z4 := HX.out.cell 4 _ rfl
    have f4 := HX.out.free 4 (by show 4 < 6; decide)
    have z5 := HX.out.cell 5 _ rfl
    have f5 := HX.out.free 5 (by show 5 < 6; decide)
    have hsz := HB.out.size
    go_wp2_with fail
    all_goals
      refine bodyPost_ret (ret_cell2 rfl _ _ ⟨w.heap.size, 0, none⟩ _ rfl (put_c6 0 0 0 0 0 ⟨#[]⟩ HX.out)) rfl ?_
      unfold OptPost
      rw [HO.out]
      exact ⟨rfl, Sty.below6 _ ⟨0, 0, 0, 0, 0, ⟨#[]⟩⟩ HB.out (Nat.le_refl _)⟩
set_option maxRecDepth 100000 in
set_option maxHeartbeats 4000000 in
theorem col_5yany (A : Option Addr) (c : Nat) (a b x y z : Int) (w : World) (h : RI w (.slice A 5 c) [a, b, x, y, z]) (hw : 0 ≤ whV a) (hy : [x, y, z].any noB = true) : Calls Tryd.prog 95 #[.slice A 5 c] w (OptPost w (colO [a, b, x, y, z])) := by
  obtain ⟨O, hO⟩ : ∃ O, O = colO [a, b, x, y, z] := ⟨_, rfl⟩
  have HO := Lib.hid (hO.trans (show colO [a, b, x, y, z] = none from colR_any hy))
  rw [← hO]
  clear hO
  have hcc : 5 ≤ c := by obtain ⟨A0, c0, he, hc, -⟩ := h; cases he; exact hc
  obtain ⟨ad, hA0, hbl0, hc0⟩ := cell_i h 0 (by decide)
  cases hA0
  obtain ⟨ad1, hA1, hbl1, hc1⟩ := cell_i h 1 (by decide)
  cases hA1
  obtain ⟨ad2, hA2, hbl2, hc2⟩ := cell_i h 2 (by decide)
  cases hA2
  obtain ⟨ad3, hA3, hbl3, hc3⟩ := cell_i h 3 (by decide)
  cases hA3
  obtain ⟨ad4, hA4, hbl4, hc4⟩ := cell_i h 4 (by decide)
  cases hA4
  rw [add_nil] at hc0
  rw [add_pos ad 1 (by decide)] at hc1
  rw [add_pos ad 2 (by decide)] at hc2
  rw [add_pos ad 3 (by decide)] at hc3
  rw [add_pos ad 4 (by decide)] at hc4
  have hb0 := below_box w (.cells #[.int .i64 0, .int .i64 0, .int .i64 0, .int .i64 0, .int .i64 0, .string ⟨#[]⟩] 48)
  have hX : Sty.Box (w.alloc (.cells #[.int .i64 0, .int .i64 0, .int .i64 0, .int .i64 0, .int .i64 0, .string ⟨#[]⟩] 48)) w.heap.size (Sty.cP zP) := Sty.Box.new _ _ _
  have d0 := (hb0.cell (p := ad) hbl0).trans hc0
  have d1 := (hb0.cell (p := ⟨ad.block, ad.off + 1, none⟩) (by show ad.block < w.heap.size; exact hbl0)).trans hc1
  have d2 := (hb0.cell (p := ⟨ad.block, ad.off + 2, none⟩) (by show ad.block < w.heap.size; exact hbl0)).trans hc2
  have d3 := (hb0.cell (p := ⟨ad.block, ad.off + 3, none⟩) (by show ad.block < w.heap.size; exact hbl0)).trans hc3
  have d4 := (hb0.cell (p := ⟨ad.block, ad.off + 4, none⟩) (by show ad.block < w.heap.size; exact hbl0)).trans hc4
  have HX := Lib.hid hX; clear hX
  have HB := Lib.hid hb0; clear hb0
  have HR := Lib.hid ((rd_at (c := c) (show RI w (.slice (some ad) [a, b, x, y, z].length c) [a, b, x, y, z] from h) 2 (by decide)).below HB.out)
  have HP := Lib.hid (fun W => colorPen_yes a hw W)
  clear h hc0 hc1 hc2 hc3 hc4 hbl0 hbl1 hbl2 hbl3 hbl4 hw
  go_enter Tryd.func95, Tryd.ntmps95
  go_upto_region 1 with fail
  obtain ⟨w1, hw1⟩ : ∃ W, W = w.alloc (.cells #[.int .i64 0, .int .i64 0, .int .i64 0, .int .i64 0, .int .i64 0, .string ⟨#[]⟩] 48) := ⟨_, rfl⟩
  rw [← hw1] at HX HB d0 d1 d2 d3 d4 HR ⊢
  clear hw1
  have HX := Lib.hid HX.out.drew
  have HB := Lib.hid HB.out.drew
  have HR := Lib.hid (HR.out.below ((Below.refl _ w1).drew))
  have e1 : w1.drew.cell? ⟨ad.block, ad.off + 1, none⟩ = some (.int .i64 b) := d1
  have e2 : w1.drew.cell? ⟨ad.block, ad.off + 2, none⟩ = some (.int .i64 x) := d2
  have e3 : w1.drew.cell? ⟨ad.block, ad.off + 3, none⟩ = some (.int .i64 y) := d3
  have e4 : w1.drew.cell? ⟨ad.block, ad.off + 4, none⟩ = some (.int .i64 z) := d4
  go_upto_region 2 with (go_at_call 92; refine (HP.out _).mono ?_; rintro e w2 ⟨rfl, rfl⟩)
  go_region
  all_goals
    clear d0 d1 d2 d3 d4
    go_wp2_with (go_at_call 73; refine (containsB_any _ 3 _ [x, y, z] _ rfl (HR.out) (by decide)).mono ?_; rw [hy]; rintro e w3 ⟨rfl, hb3⟩; have HX := Lib.hid (HX.out.keep hb3); have HB := Lib.hid (Par.up HB.out hb3); have hsz := HB.out.size; have z0 := HX.out.cell 0 _ rfl; have f0 := HX.out.free 0 (by show 0 < 6; decide); have z1 := HX.out.cell 1 _ rfl; have f1 := HX.out.free 1 (by show 1 < 6; decide); have z2 := HX.out.cell 2 _ rfl; have f2 := HX.out.free 2 (by show 2 < 6; decide); have z3 := HX.out.cell 3 _ rfl; have f3 := HX.out.free 3 (by show 3 < 6; decide); have z4 := HX.out.cell 4 _ rfl; have f4 := HX.out.free 4 (by show 4 < 6; decide); have z5 := HX.out.cell 5 _ rfl; have f5 := HX.out.free 5 (by show 5 < 6; decide))
    all_goals
      refine bodyPost_ret (ret_cell2 rfl _ _ ⟨w.heap.size, 0, none⟩ _ rfl (put_c6 0 0 0 0 0 ⟨#[]⟩ HX.out)) rfl ?_
      unfold OptPost
      rw [HO.out]
      exact ⟨rfl, Sty.below6 _ ⟨0, 0, 0, 0, 0, ⟨#[]⟩⟩ HB.out (Nat.le_refl _)⟩
set_option maxRecDepth 100000 in
set_option maxHeartbeats 4000000 in
theorem col_5ynone (A : Option Addr) (c : Nat) (a b x y z : Int) (w : World) (h : RI w (.slice A 5 c) [a, b, x, y, z]) (hw : 0 ≤ whV a) (hy : [x, y, z].any noB = false) (hb : b ≠ 2) : Calls Tryd.prog 95 #[.slice A 5 c] w (OptPost w (colO [a, b, x, y, z])) := by
  obtain ⟨O, hO⟩ : ∃ O, O = colO [a, b, x, y, z] := ⟨_, rfl⟩
  have HO := Lib.hid (hO.trans (show colO [a, b, x, y, z] = none from colR_none (by rintro ⟨h1, h2⟩; exact absurd (show 3 = 1 from h2) (by decide)) (by rintro ⟨h1, h2⟩; exact hb h1)))
  rw [← hO]
  clear hO
  have hcc : 5 ≤ c := by obtain ⟨A0, c0, he, hc, -⟩ := h; cases he; exact hc
  obtain ⟨ad, hA0, hbl0, hc0⟩ := cell_i h 0 (by decide)
  cases hA0
  obtain ⟨ad1, hA1, hbl1, hc1⟩ := cell_i h 1 (by decide)
  cases hA1
  obtain ⟨ad2, hA2, hbl2, hc2⟩ := cell_i h 2 (by decide)
  cases hA2
  obtain ⟨ad3, hA3, hbl3, hc3⟩ := cell_i h 3 (by decide)
  cases hA3
  obtain ⟨ad4, hA4, hbl4, hc4⟩ := cell_i h 4 (by decide)
  cases hA4
  rw [add_nil] at hc0
  rw [add_pos ad 1 (by decide)] at hc1
  rw [add_pos ad 2 (by decide)] at hc2
  rw [add_pos ad 3 (by decide)] at hc3
  rw [add_pos ad 4 (by decide)] at hc4
  have hb0 := below_box w (.cells #[.int .i64 0, .int .i64 0, .int .i64 0, .int .i64 0, .int .i64 0, .string ⟨#[]⟩] 48)
  have hX : Sty.Box (w.alloc (.cells #[.int .i64 0, .int .i64 0, .int .i64 0, .int .i64 0, .int .i64 0, .string ⟨#[]⟩] 48)) w.heap.size (Sty.cP zP) := Sty.Box.new _ _ _
  have d0 := (hb0.cell (p := ad) hbl0).trans hc0
  have d1 := (hb0.cell (p := ⟨ad.block, ad.off + 1, none⟩) (by show ad.block < w.heap.size; exact hbl0)).trans hc1
  have d2 := (hb0.cell (p := ⟨ad.block, ad.off + 2, none⟩) (by show ad.block < w.heap.size; exact hbl0)).trans hc2
  have d3 := (hb0.cell (p := ⟨ad.block, ad.off + 3, none⟩) (by show ad.block < w.heap.size; exact hbl0)).trans hc3
  have d4 := (hb0.cell (p := ⟨ad.block, ad.off + 4, none⟩) (by show ad.block < w.heap.size; exact hbl0)).trans hc4
  have HX := Lib.hid hX; clear hX
  have HB := Lib.hid hb0; clear hb0
  have HR := Lib.hid ((rd_at (c := c) (show RI w (.slice (some ad) [a, b, x, y, z].length c) [a, b, x, y, z] from h) 2 (by decide)).below HB.out)
  have HP := Lib.hid (fun W => colorPen_yes a hw W)
  clear h hc0 hc1 hc2 hc3 hc4 hbl0 hbl1 hbl2 hbl3 hbl4 hw
  go_enter Tryd.func95, Tryd.ntmps95
  go_upto_region 1 with fail
  obtain ⟨w1, hw1⟩ : ∃ W, W = w.alloc (.cells #[.int .i64 0, .int .i64 0, .int .i64 0, .int .i64 0, .int .i64 0, .string ⟨#[]⟩] 48) := ⟨_, rfl⟩
  rw [← hw1] at HX HB d0 d1 d2 d3 d4 HR ⊢
  clear hw1
  have HX := Lib.hid HX.out.drew
  have HB := Lib.hid HB.out.drew
  have HR := Lib.hid (HR.out.below ((Below.refl _ w1).drew))
  have e1 : w1.drew.cell? ⟨ad.block, ad.off + 1, none⟩ = some (.int .i64 b) := d1
  have e2 : w1.drew.cell? ⟨ad.block, ad.off + 2, none⟩ = some (.int .i64 x) := d2
  have e3 : w1.drew.cell? ⟨ad.block, ad.off + 3, none⟩ = some (.int .i64 y) := d3
  have e4 : w1.drew.cell? ⟨ad.block, ad.off + 4, none⟩ = some (.int .i64 z) := d4
  go_upto_region 2 with (go_at_call 92; refine (HP.out _).mono ?_; rintro e w2 ⟨rfl, rfl⟩)
  go_region
  all_goals
    clear d0 d1 d2 d3 d4
    go_wp2_with (go_at_call 73; refine (containsB_any _ 3 _ [x, y, z] _ rfl (HR.out) (by decide)).mono ?_; rw [hy]; rintro e w3 ⟨rfl, hb3⟩; have HX := Lib.hid (HX.out.keep hb3); have HB := Lib.hid (Par.up HB.out hb3); have hsz := HB.out.size; have z0 := HX.out.cell 0 _ rfl; have f0 := HX.out.free 0 (by show 0 < 6; decide); have z1 := HX.out.cell 1 _ rfl; have f1 := HX.out.free 1 (by show 1 < 6; decide); have z2 := HX.out.cell 2 _ rfl; have f2 := HX.out.free 2 (by show 2 < 6; decide); have z3 := HX.out.cell 3 _ rfl; have f3 := HX.out.free 3 (by show 3 < 6; decide); have z4 := HX.out.cell 4 _ rfl; have f4 := HX.out.free 4 (by show 4 < 6; decide); have z5 := HX.out.cell 5 _ rfl; have f5 := HX.out.free 5 (by show 5 < 6; decide))
    all_goals
      refine bodyPost_ret (ret_cell2 rfl _ _ ⟨w.heap.size, 0, none⟩ _ rfl (put_c6 0 0 0 0 0 ⟨#[]⟩ HX.out)) rfl ?_
      unfold OptPost
      rw [HO.out]
      exact ⟨rfl, Sty.below6 _ ⟨0, 0, 0, 0, 0, ⟨#[]⟩⟩ HB.out (Nat.le_refl _)⟩
set_option maxRecDepth 100000 in
set_option maxHeartbeats 4000000 in
theorem col_5ypen (A : Option Addr) (c : Nat) (a x y z : Int) (w : World) (h : RI w (.slice A 5 c) [a, 2, x, y, z]) (hw : 0 ≤ whV a) (hy : [x, y, z].any noB = false) : Calls Tryd.prog 95 #[.slice A 5 c] w (OptPost w (colO [a, 2, x, y, z])) := by
  obtain ⟨O, hO⟩ : ∃ O, O = colO [a, 2, x, y, z] := ⟨_, rfl⟩
  have HO := Lib.hid (hO.trans (show colO [a, 2, x, y, z] = some (rgbQ (whV a) x y z) from colR_2 hw hy))
  rw [← hO]
  clear hO
  have hcc : 5 ≤ c := by obtain ⟨A0, c0, he, hc, -⟩ := h; cases he; exact hc
  obtain ⟨ad, hA0, hbl0, hc0⟩ := cell_i h 0 (by decide)
  cases hA0
  obtain ⟨ad1, hA1, hbl1, hc1⟩ := cell_i h 1 (by decide)
  cases hA1
  obtain ⟨ad2, hA2, hbl2, hc2⟩ := cell_i h 2 (by decide)
  cases hA2
  obtain ⟨ad3, hA3, hbl3, hc3⟩ := cell_i h 3 (by decide)
  cases hA3
  obtain ⟨ad4, hA4, hbl4, hc4⟩ := cell_i h 4 (by decide)
  cases hA4
  rw [add_nil] at hc0
  rw [add_pos ad 1 (by decide)] at hc1
  rw [add_pos ad 2 (by decide)] at hc2
  rw [add_pos ad 3 (by decide)] at hc3
  rw [add_pos ad 4 (by decide)] at hc4
  have hb0 := below_box w (.cells #[.int .i64 0, .int .i64 0, .int .i64 0, .int .i64 0, .int .i64 0, .string ⟨#[]⟩] 48)
  have hX : Sty.Box (w.alloc (.cells #[.int .i64 0, .int .i64 0, .int .i64 0, .int .i64 0, .int .i64 0, .string ⟨#[]⟩] 48)) w.heap.size (Sty.cP zP) := Sty.Box.new _ _ _
  have d0 := (hb0.cell (p := ad) hbl0).trans hc0
  have d1 := (hb0.cell (p := ⟨ad.block, ad.off + 1, none⟩) (by show ad.block < w.heap.size; exact hbl0)).trans hc1
  have d2 := (hb0.cell (p := ⟨ad.block, ad.off + 2, none⟩) (by show ad.block < w.heap.size; exact hbl0)).trans hc2
  have d3 := (hb0.cell (p := ⟨ad.block, ad.off + 3, none⟩) (by show ad.block < w.heap.size; exact hbl0)).trans hc3
  have d4 := (hb0.cell (p := ⟨ad.block, ad.off + 4, none⟩) (by show ad.block < w.heap.size; exact hbl0)).trans hc4
  have HX := Lib.hid hX; clear hX
  have HB := Lib.hid hb0; clear hb0
  have HR := Lib.hid ((rd_at (c := c) (show RI w (.slice (some ad) [a, 2, x, y, z].length c) [a, 2, x, y, z] from h) 2 (by decide)).below HB.out)
  have HP := Lib.hid (fun W => colorPen_yes a hw W)
  clear h hc0 hc1 hc2 hc3 hc4 hbl1 hbl2 hbl3 hbl4 hw
  go_enter Tryd.func95, Tryd.ntmps95
  go_upto_region 1 with fail
  obtain ⟨w1, hw1⟩ : ∃ W, W = w.alloc (.cells #[.int .i64 0, .int .i64 0, .int .i64 0, .int .i64 0, .int .i64 0, .string ⟨#[]⟩] 48) := ⟨_, rfl⟩
  rw [← hw1] at HX HB d0 d1 d2 d3 d4 HR ⊢
  clear hw1
  have HX := Lib.hid HX.out.drew
  have HB := Lib.hid HB.out.drew
  have HR := Lib.hid (HR.out.below ((Below.refl _ w1).drew))
  have e1 : w1.drew.cell? ⟨ad.block, ad.off + 1, none⟩ = some (.int .i64 2) := d1
  have e2 : w1.drew.cell? ⟨ad.block, ad.off + 2, none⟩ = some (.int .i64 x) := d2
  have e3 : w1.drew.cell? ⟨ad.block, ad.off + 3, none⟩ = some (.int .i64 y) := d3
  have e4 : w1.drew.cell? ⟨ad.block, ad.off + 4, none⟩ = some (.int .i64 z) := d4
  go_upto_region 2 with (go_at_call 92; refine (HP.out _).mono ?_; rintro e w2 ⟨rfl, rfl⟩)
  go_region
  have hadb := Nat.lt_of_lt_of_le hbl0 HB.out.size
  all_goals
    clear d0 d1 d2 d3 d4
    go_upto_region 10 with (go_at_call 73; refine (containsB_any _ 3 _ [x, y, z] _ rfl (HR.out) (by decide)).mono ?_; rw [hy]; rintro e w3 ⟨rfl, hb3⟩; have HX := Lib.hid (HX.out.keep hb3); have HB := Lib.hid (Par.up HB.out hb3); have hsz := HB.out.size; have z0 := HX.out.cell 0 _ rfl; have f0 := HX.out.free 0 (by show 0 < 6; decide); have z1 := HX.out.cell 1 _ rfl; have f1 := HX.out.free 1 (by show 1 < 6; decide); have z2 := HX.out.cell 2 _ rfl; have f2 := HX.out.free 2 (by show 2 < 6; decide); have z3 := HX.out.cell 3 _ rfl; have f3 := HX.out.free 3 (by show 3 < 6; decide); have z4 := HX.out.cell 4 _ rfl; have f4 := HX.out.free 4 (by show 4 < 6; decide); have z5 := HX.out.cell 5 _ rfl; have f5 := HX.out.free 5 (by show 5 < 6; decide); have q2 : w3.cell? ⟨ad.block, ad.off + 2, none⟩ = some (.int .i64 x) := (hb3.cell (p := ⟨ad.block, ad.off + 2, none⟩) hadb).trans e2; have q3 : w3.cell? ⟨ad.block, ad.off + 3, none⟩ = some (.int .i64 y) := (hb3.cell (p := ⟨ad.block, ad.off + 3, none⟩) hadb).trans e3; have q4 : w3.cell? ⟨ad.block, ad.off + 4, none⟩ = some (.int .i64 z) := (hb3.cell (p := ⟨ad.block, ad.off + 4, none⟩) hadb).trans e4)
    have HK := Lib.hid (show ∀ W, Below w.heap.size w3 W → W.cell? ⟨ad.block, ad.off + 2, none⟩ = some (.int .i64 x) ∧ W.cell? ⟨ad.block, ad.off + 3, none⟩ = some (.int .i64 y) ∧ W.cell? ⟨ad.block, ad.off + 4, none⟩ = some (.int .i64 z) from fun W hW => ⟨(hW.cell (p := ⟨ad.block, ad.off + 2, none⟩) hbl0).trans q2, (hW.cell (p := ⟨ad.block, ad.off + 3, none⟩) hbl0).trans q3, (hW.cell (p := ⟨ad.block, ad.off + 4, none⟩) hbl0).trans q4⟩)
    have HX := Lib.hid HX.out.drew
    have G3 := HK.out _ ((Below.refl _ _).drew)
    have HE := Lib.hid (or3 x y z (any3 _ _ _ hy).1 (any3 _ _ _ hy).2.1 (any3 _ _ _ hy).2.2)
    clear z0 f0 z1 f1 z2 f2 z3 f3 z4 f4 z5 f5 q2 q3 q4 e1 e2 e3 e4 hb3 hadb HR
    go_region_held3 (fun W => W.cell? ⟨ad.block, ad.off + 2, none⟩ = some (.int .i64 x) ∧ W.cell? ⟨ad.block, ad.off + 3, none⟩ = some (.int .i64 y) ∧ W.cell? ⟨ad.block, ad.off + 4, none⟩ = some (.int .i64 z))
      (first
        | (with_reducible exact GS)
        | (with_reducible exact G4)
        | (with_reducible exact G3))
      ((go_at_call 88; refine (colored_is _ _ (x * 65536 + y * 256 + z) _ HE.out _).mono ?_; rintro e w4 ⟨rfl, hb4⟩; have D4 : Below w.heap.size w3 w4 := (Below.refl _ _).drew.trans (hb4.mono (by exact HB.out.drew.size)); have G4 := HK.out _ D4; have GS := HK.out _ (below_c6 w.heap.size 39 (whV a) 0 2 (x * 65536 + y * 256 + z) ⟨#[]⟩ D4 (Nat.le_refl _)); have HX4 := Lib.hid (HX.out.keep hb4); have HB4 := Lib.hid (HB.out.drew.trans (hb4.mono (by exact HB.out.drew.size))); have hsz4 := HB4.out.size; have z0 := HX4.out.cell 0 _ rfl; have f0 := HX4.out.free 0 (by show 0 < 6; decide); have z1 := HX4.out.cell 1 _ rfl; have f1 := HX4.out.free 1 (by show 1 < 6; decide); have z2 := HX4.out.cell 2 _ rfl; have f2 := HX4.out.free 2 (by show 2 < 6; decide); have z3 := HX4.out.cell 3 _ rfl; have f3 := HX4.out.free 3 (by show 3 < 6; decide); have z4 := HX4.out.cell 4 _ rfl; have f4 := HX4.out.free 4 (by show 4 < 6; decide); have z5 := HX4.out.cell 5 _ rfl; have f5 := HX4.out.free 5 (by show 5 < 6; decide)))
    have HX := HX4
    have HB := HB4
    clear GS G4 G3 HX4 HB4 D4 hb4 HE HK
    go_wp2_with fail
    refine bodyPost_ret (ret_cell2 rfl _ _ ⟨w.heap.size, 0, none⟩ _ rfl (put_c6 39 (whV a) 0 2 (x * 65536 + y * 256 + z) ⟨#[]⟩ HX.out)) rfl ?_
    unfold OptPost
    rw [HO.out]
    exact ⟨rfl, Sty.below6 _ ⟨39, (whV a), 0, 2, (x * 65536 + y * 256 + z), ⟨#[]⟩⟩ HB.out (Nat.le_refl _)⟩
set_option maxRecDepth 100000 in
set_option maxHeartbeats 4000000 in
theorem col_6n (A : Option Addr) (c : Nat) (a b x y z u : Int) (w : World) (h : RI w (.slice A 6 c) [a, b, x, y, z, u]) (hw : whV a < 0) : Calls Tryd.prog 95 #[.slice A 6 c] w (OptPost w (colO [a, b, x, y, z, u])) := by
  obtain ⟨O, hO⟩ : ∃ O, O = colO [a, b, x, y, z, u] := ⟨_, rfl⟩
  have HO := Lib.hid (hO.trans (show colO [a, b, x, y, z, u] = none from colR_no hw))
  rw [← hO]
  clear hO
  have hcc : 6 ≤ c := by obtain ⟨A0, c0, he, hc, -⟩ := h; cases he; exact hc
  obtain ⟨ad, hA0, hbl0, hc0⟩ := cell_i h 0 (by decide)
  cases hA0
  obtain ⟨ad1, hA1, hbl1, hc1⟩ := cell_i h 1 (by decide)
  cases hA1
  obtain ⟨ad2, hA2, hbl2, hc2⟩ := cell_i h 2 (by decide)
  cases hA2
  obtain ⟨ad3, hA3, hbl3, hc3⟩ := cell_i h 3 (by decide)
  cases hA3
  obtain ⟨ad4, hA4, hbl4, hc4⟩ := cell_i h 4 (by decide)
  cases hA4
  obtain ⟨ad5, hA5, hbl5, hc5⟩ := cell_i h 5 (by decide)
  cases hA5
  rw [add_nil] at hc0
  rw [add_pos ad 1 (by decide)] at hc1
  rw [add_pos ad 2 (by decide)] at hc2
  rw [add_pos ad 3 (by decide)] at hc3
  rw [add_pos ad 4 (by decide)] at hc4
  rw [add_pos ad 5 (by decide)] at hc5
  have hb0 := below_box w (.cells #[.int .i64 0, .int .i64 0, .int .i64 0, .int .i64 0, .int .i64 0, .string ⟨#[]⟩] 48)
  have hX : Sty.Box (w.alloc (.cells #[.int .i64 0, .int .i64 0, .int .i64 0, .int .i64 0, .int .i64 0, .string ⟨#[]⟩] 48)) w.heap.size (Sty.cP zP) := Sty.Box.new _ _ _
  have d0 := (hb0.cell (p := ad) hbl0).trans hc0
  have d1 := (hb0.cell (p := ⟨ad.block, ad.off + 1, none⟩) (by show ad.block < w.heap.size; exact hbl0)).trans hc1
  have d2 := (hb0.cell (p := ⟨ad.block, ad.off + 2, none⟩) (by show ad.block < w.heap.size; exact hbl0)).trans hc2
  have d3 := (hb0.cell (p := ⟨ad.block, ad.off + 3, none⟩) (by show ad.block < w.heap.size; exact hbl0)).trans hc3
  have d4 := (hb0.cell (p := ⟨ad.block, ad.off + 4, none⟩) (by show ad.block < w.heap.size; exact hbl0)).trans hc4
  have d5 := (hb0.cell (p := ⟨ad.block, ad.off + 5, none⟩) (by show ad.block < w.heap.size; exact hbl0)).trans hc5
  have HX := Lib.hid hX; clear hX
  have HB := Lib.hid hb0; clear hb0
  have HR := Lib.hid ((rd_at (c := c) (show RI w (.slice (some ad) [a, b, x, y, z, u].length c) [a, b, x, y, z, u] from h) 3 (by decide)).below HB.out)
  have HP := Lib.hid (fun W => colorPen_no a hw W)
  clear h hc0 hc1 hc2 hc3 hc4 hc5 hbl0 hbl1 hbl2 hbl3 hbl4 hbl5 hw
  go_enter Tryd.func95, Tryd.ntmps95
  go_upto_region 1 with fail
  obtain ⟨w1, hw1⟩ : ∃ W, W = w.alloc (.cells #[.int .i64 0, .int .i64 0, .int .i64 0, .int .i64 0, .int .i64 0, .string ⟨#[]⟩] 48) := ⟨_, rfl⟩
  rw [← hw1] at HX HB d0 d1 d2 d3 d4 d5 HR ⊢
  clear hw1
  have HX := Lib.hid HX.out.drew
  have HB := Lib.hid HB.out.drew
  have HR := Lib.hid (HR.out.below ((Below.refl _ w1).drew))
  have e1 : w1.drew.cell? ⟨ad.block, ad.off + 1, none⟩ = some (.int .i64 b) := d1
  have e2 : w1.drew.cell? ⟨ad.block, ad.off + 2, none⟩ = some (.int .i64 x) := d2
  have e3 : w1.drew.cell? ⟨ad.block, ad.off + 3, none⟩ = some (.int .i64 y) := d3
  have e4 : w1.drew.cell? ⟨ad.block, ad.off + 4, none⟩ = some (.int .i64 z) := d4
  have e5 : w1.drew.cell? ⟨ad.block, ad.off + 5, none⟩ = some (.int .i64 u) := d5
  go_upto_region 2 with (go_at_call 92; refine (HP.out _).mono ?_; rintro e w2 ⟨rfl, rfl⟩)
  go_region
  all_goals
    clear d0 d1 d2 d3 d4 d5 e1 e2 e3 e4 e5 HR
    generalize w1.drew = w2 at HX HB ⊢
    have z0 := HX.out.cell 0 _ rfl
    have f0 := HX.out.free 0 (by show 0 < 6; decide)
    have z1 := HX.out.cell 1 _ rfl
    have f1 := HX.out.free 1 (by show 1 < 6; decide)
    have z2 := HX.out.cell 2 _ rfl
    have f2 := HX.out.free 2 (by show 2 < 6; decide)
    have z3 := HX.out.cell 3 _ rfl
    have f3 := HX.out.free 3 (by show 3 < 6; decide)
    have z4 := HX.out.cell 4 _ rfl
    have f4 := HX.out.free 4 (by show 4 < 6; decide)
    have z5 := HX.out.cell 5 _ rfl
    have f5 := HX.out.free 5 (by show 5 < 6; decide)
    have hsz := HB.out.size
    go_wp2_with fail
    all_goals
      refine bodyPost_ret (ret_cell2 rfl _ _ ⟨w.heap.size, 0, none⟩ _ rfl (put_c6 0 0 0 0 0 ⟨#[]⟩ HX.out)) rfl ?_
      unfold OptPost
      rw [HO.out]
      exact ⟨rfl, Sty.below6 _ ⟨0, 0, 0, 0, 0, ⟨#[]⟩⟩ HB.out (Nat.le_refl _)⟩
set_option maxRecDepth 100000 in
set_option maxHeartbeats 4000000 in
theorem col_6yany (A : Option Addr) (c : Nat) (a b x y z u : Int) (w : World) (h : RI w (.slice A 6 c) [a, b, x, y, z, u]) (hw : 0 ≤ whV a) (hy : [y, z, u].any noB = true) : Calls Tryd.prog 95 #[.slice A 6 c] w (OptPost w (colO [a, b, x, y, z, u])) := by
  obtain ⟨O, hO⟩ : ∃ O, O = colO [a, b, x, y, z, u] := ⟨_, rfl⟩
  have HO := Lib.hid (hO.trans (show colO [a, b, x, y, z, u] = none from colR_any hy))
  rw [← hO]
  clear hO
  have hcc : 6 ≤ c := by obtain ⟨A0, c0, he, hc, -⟩ := h; cases he; exact hc
  obtain ⟨ad, hA0, hbl0, hc0⟩ := cell_i h 0 (by decide)
  cases hA0
  obtain ⟨ad1, hA1, hbl1, hc1⟩ := cell_i h 1 (by decide)
  cases hA1
  obtain ⟨ad2, hA2, hbl2, hc2⟩ := cell_i h 2 (by decide)
  cases hA2
  obtain ⟨ad3, hA3, hbl3, hc3⟩ := cell_i h 3 (by decide)
  cases hA3
  obtain ⟨ad4, hA4, hbl4, hc4⟩ := cell_i h 4 (by decide)
  cases hA4
  obtain ⟨ad5, hA5, hbl5, hc5⟩ := cell_i h 5 (by decide)
  cases hA5
  rw [add_nil] at hc0
  rw [add_pos ad 1 (by decide)] at hc1
  rw [add_pos ad 2 (by decide)] at hc2
  rw [add_pos ad 3 (by decide)] at hc3
  rw [add_pos ad 4 (by decide)] at hc4
  rw [add_pos ad 5 (by decide)] at hc5
  have hb0 := below_box w (.cells #[.int .i64 0, .int .i64 0, .int .i64 0, .int .i64 0, .int .i64 0, .string ⟨#[]⟩] 48)
  have hX : Sty.Box (w.alloc (.cells #[.int .i64 0, .int .i64 0, .int .i64 0, .int .i64 0, .int .i64 0, .string ⟨#[]⟩] 48)) w.heap.size (Sty.cP zP) := Sty.Box.new _ _ _
  have d0 := (hb0.cell (p := ad) hbl0).trans hc0
  have d1 := (hb0.cell (p := ⟨ad.block, ad.off + 1, none⟩) (by show ad.block < w.heap.size; exact hbl0)).trans hc1
  have d2 := (hb0.cell (p := ⟨ad.block, ad.off + 2, none⟩) (by show ad.block < w.heap.size; exact hbl0)).trans hc2
  have d3 := (hb0.cell (p := ⟨ad.block, ad.off + 3, none⟩) (by show ad.block < w.heap.size; exact hbl0)).trans hc3
  have d4 := (hb0.cell (p := ⟨ad.block, ad.off + 4, none⟩) (by show ad.block < w.heap.size; exact hbl0)).trans hc4
  have d5 := (hb0.cell (p := ⟨ad.block, ad.off + 5, none⟩) (by show ad.block < w.heap.size; exact hbl0)).trans hc5
  have HX := Lib.hid hX; clear hX
  have HB := Lib.hid hb0; clear hb0
  have HR := Lib.hid ((rd_at (c := c) (show RI w (.slice (some ad) [a, b, x, y, z, u].length c) [a, b, x, y, z, u] from h) 3 (by decide)).below HB.out)
  have HP := Lib.hid (fun W => colorPen_yes a hw W)
  clear h hc0 hc1 hc2 hc3 hc4 hc5 hbl0 hbl1 hbl2 hbl3 hbl4 hbl5 hw
  go_enter Tryd.func95, Tryd.ntmps95
  go_upto_region 1 with fail
  obtain ⟨w1, hw1⟩ : ∃ W, W = w.alloc (.cells #[.int .i64 0, .int .i64 0, .int .i64 0, .int .i64 0, .int .i64 0, .string ⟨#[]⟩] 48) := ⟨_, rfl⟩
  rw [← hw1] at HX HB d0 d1 d2 d3 d4 d5 HR ⊢
  clear hw1
  have HX := Lib.hid HX.out.drew
  have HB := Lib.hid HB.out.drew
  have HR := Lib.hid (HR.out.below ((Below.refl _ w1).drew))
  have e1 : w1.drew.cell? ⟨ad.block, ad.off + 1, none⟩ = some (.int .i64 b) := d1
  have e2 : w1.drew.cell? ⟨ad.block, ad.off + 2, none⟩ = some (.int .i64 x) := d2
  have e3 : w1.drew.cell? ⟨ad.block, ad.off + 3, none⟩ = some (.int .i64 y) := d3
  have e4 : w1.drew.cell? ⟨ad.block, ad.off + 4, none⟩ = some (.int .i64 z) := d4
  have e5 : w1.drew.cell? ⟨ad.block, ad.off + 5, none⟩ = some (.int .i64 u) := d5
  go_upto_region 2 with (go_at_call 92; refine (HP.out _).mono ?_; rintro e w2 ⟨rfl, rfl⟩)
  go_region
  all_goals
    clear d0 d1 d2 d3 d4 d5
    go_wp2_with (go_at_call 73; refine (containsB_any _ 3 _ [y, z, u] _ rfl (HR.out) (by decide)).mono ?_; rw [hy]; rintro e w3 ⟨rfl, hb3⟩; have HX := Lib.hid (HX.out.keep hb3); have HB := Lib.hid (Par.up HB.out hb3); have hsz := HB.out.size; have z0 := HX.out.cell 0 _ rfl; have f0 := HX.out.free 0 (by show 0 < 6; decide); have z1 := HX.out.cell 1 _ rfl; have f1 := HX.out.free 1 (by show 1 < 6; decide); have z2 := HX.out.cell 2 _ rfl; have f2 := HX.out.free 2 (by show 2 < 6; decide); have z3 := HX.out.cell 3 _ rfl; have f3 := HX.out.free 3 (by show 3 < 6; decide); have z4 := HX.out.cell 4 _ rfl; have f4 := HX.out.free 4 (by show 4 < 6; decide); have z5 := HX.out.cell 5 _ rfl; have f5 := HX.out.free 5 (by show 5 < 6; decide))
    all_goals
      refine bodyPost_ret (ret_cell2 rfl _ _ ⟨w.heap.size, 0, none⟩ _ rfl (put_c6 0 0 0 0 0 ⟨#[]⟩ HX.out)) rfl ?_
      unfold OptPost
      rw [HO.out]
      exact ⟨rfl, Sty.below6 _ ⟨0, 0, 0, 0, 0, ⟨#[]⟩⟩ HB.out (Nat.le_refl _)⟩
set_option maxRecDepth 100000 in
set_option maxHeartbeats 4000000 in
theorem col_6ynone (A : Option Addr) (c : Nat) (a b x y z u : Int) (w : World) (h : RI w (.slice A 6 c) [a, b, x, y, z, u]) (hw : 0 ≤ whV a) (hy : [y, z, u].any noB = false) (hb : b ≠ 2) : Calls Tryd.prog 95 #[.slice A 6 c] w (OptPost w (colO [a, b, x, y, z, u])) := by
  obtain ⟨O, hO⟩ : ∃ O, O = colO [a, b, x, y, z, u] := ⟨_, rfl⟩
  have HO := Lib.hid (hO.trans (show colO [a, b, x, y, z, u] = none from colR_none (by rintro ⟨h1, h2⟩; exact absurd (show 3 = 1 from h2) (by decide)) (by rintro ⟨h1, h2⟩; exact hb h1)))
  rw [← hO]
  clear hO
  have hcc : 6 ≤ c := by obtain ⟨A0, c0, he, hc, -⟩ := h; cases he; exact hc
  obtain ⟨ad, hA0, hbl0, hc0⟩ := cell_i h 0 (by decide)
  cases hA0
  obtain ⟨ad1, hA1, hbl1, hc1⟩ := cell_i h 1 (by decide)
  cases hA1
  obtain ⟨ad2, hA2, hbl2, hc2⟩ := cell_i h 2 (by decide)
  cases hA2
  obtain ⟨ad3, hA3, hbl3, hc3⟩ := cell_i h 3 (by decide)
  cases hA3
  obtain ⟨ad4, hA4, hbl4, hc4⟩ := cell_i h 4 (by decide)
  cases hA4
  obtain ⟨ad5, hA5, hbl5, hc5⟩ := cell_i h 5 (by decide)
  cases hA5
  rw [add_nil] at hc0
  rw [add_pos ad 1 (by decide)] at hc1
  rw [add_pos ad 2 (by decide)] at hc2
  rw [add_pos ad 3 (by decide)] at hc3
  rw [add_pos ad 4 (by decide)] at hc4
  rw [add_pos ad 5 (by decide)] at hc5
  have hb0 := below_box w (.cells #[.int .i64 0, .int .i64 0, .int .i64 0, .int .i64 0, .int .i64 0, .string ⟨#[]⟩] 48)
  have hX : Sty.Box (w.alloc (.cells #[.int .i64 0, .int .i64 0, .int .i64 0, .int .i64 0, .int .i64 0, .string ⟨#[]⟩] 48)) w.heap.size (Sty.cP zP) := Sty.Box.new _ _ _
  have d0 := (hb0.cell (p := ad) hbl0).trans hc0
  have d1 := (hb0.cell (p := ⟨ad.block, ad.off + 1, none⟩) (by show ad.block < w.heap.size; exact hbl0)).trans hc1
  have d2 := (hb0.cell (p := ⟨ad.block, ad.off + 2, none⟩) (by show ad.block < w.heap.size; exact hbl0)).trans hc2
  have d3 := (hb0.cell (p := ⟨ad.block, ad.off + 3, none⟩) (by show ad.block < w.heap.size; exact hbl0)).trans hc3
  have d4 := (hb0.cell (p := ⟨ad.block, ad.off + 4, none⟩) (by show ad.block < w.heap.size; exact hbl0)).trans hc4
  have d5 := (hb0.cell (p := ⟨ad.block, ad.off + 5, none⟩) (by show ad.block < w.heap.size; exact hbl0)).trans hc5
  have HX := Lib.hid hX; clear hX
  have HB := Lib.hid hb0; clear hb0
  have HR := Lib.hid ((rd_at (c := c) (show RI w (.slice (some ad) [a, b, x, y, z, u].length c) [a, b, x, y, z, u] from h) 3 (by decide)).below HB.out)
  have HP := Lib.hid (fun W => colorPen_yes a hw W)
  clear h hc0 hc1 hc2 hc3 hc4 hc5 hbl0 hbl1 hbl2 hbl3 hbl4 hbl5 hw
  go_enter Tryd.func95, Tryd.ntmps95
  go_upto_region 1 with fail
  obtain ⟨w1, hw1⟩ : ∃ W, W = w.alloc (.cells #[.int .i64 0, .int .i64 0, .int .i64 0, .int .i64 0, .int .i64 0, .string ⟨#[]⟩] 48) := ⟨_, rfl⟩
  rw [← hw1] at HX HB d0 d1 d2 d3 d4 d5 HR ⊢
  clear hw1
  have HX := Lib.hid HX.out.drew
  have HB := Lib.hid HB.out.drew
  have HR := Lib.hid (HR.out.below ((Below.refl _ w1).drew))
  have e1 : w1.drew.cell? ⟨ad.block, ad.off + 1, none⟩ = some (.int .i64 b) := d1
  have e2 : w1.drew.cell? ⟨ad.block, ad.off + 2, none⟩ = some (.int .i64 x) := d2
  have e3 : w1.drew.cell? ⟨ad.block, ad.off + 3, none⟩ = some (.int .i64 y) := d3
  have e4 : w1.drew.cell? ⟨ad.block, ad.off + 4, none⟩ = some (.int .i64 z) := d4
  have e5 : w1.drew.cell? ⟨ad.block, ad.off + 5, none⟩ = some (.int .i64 u) := d5
  go_upto_region 2 with (go_at_call 92; refine (HP.out _).mono ?_; rintro e w2 ⟨rfl, rfl⟩)
  go_region
  all_goals
    clear d0 d1 d2 d3 d4 d5
    go_wp2_with (go_at_call 73; refine (containsB_any _ 3 _ [y, z, u] _ rfl (HR.out) (by decide)).mono ?_; rw [hy]; rintro e w3 ⟨rfl, hb3⟩; have HX := Lib.hid (HX.out.keep hb3); have HB := Lib.hid (Par.up HB.out hb3); have hsz := HB.out.size; have z0 := HX.out.cell 0 _ rfl; have f0 := HX.out.free 0 (by show 0 < 6; decide); have z1 := HX.out.cell 1 _ rfl; have f1 := HX.out.free 1 (by show 1 < 6; decide); have z2 := HX.out.cell 2 _ rfl; have f2 := HX.out.free 2 (by show 2 < 6; decide); have z3 := HX.out.cell 3 _ rfl; have f3 := HX.out.free 3 (by show 3 < 6; decide); have z4 := HX.out.cell 4 _ rfl; have f4 := HX.out.free 4 (by show 4 < 6; decide); have z5 := HX.out.cell 5 _ rfl; have f5 := HX.out.free 5 (by show 5 < 6; decide))
    all_goals
      refine bodyPost_ret (ret_cell2 rfl _ _ ⟨w.heap.size, 0, none⟩ _ rfl (put_c6 0 0 0 0 0 ⟨#[]⟩ HX.out)) rfl ?_
      unfold OptPost
      rw [HO.out]
      exact ⟨rfl, Sty.below6 _ ⟨0, 0, 0, 0, 0, ⟨#[]⟩⟩ HB.out (Nat.le_refl _)⟩
set_option maxRecDepth 100000 in
set_option maxHeartbeats 4000000 in
theorem col_6ypen (A : Option Addr) (c : Nat) (a x y z u : Int) (w : World) (h : RI w (.slice A 6 c) [a, 2, x, y, z, u]) (hw : 0 ≤ whV a) (hy : [y, z, u].any noB = false) : Calls Tryd.prog 95 #[.slice A 6 c] w (OptPost w (colO [a, 2, x, y, z, u])) := by
  obtain ⟨O, hO⟩ : ∃ O, O = colO [a, 2, x, y, z, u] := ⟨_, rfl⟩
  have HO := Lib.hid (hO.trans (show colO [a, 2, x, y, z, u] = some (rgbQ (whV a) y z u) from colR_2 hw hy))
  rw [← hO]
  clear hO
  have hcc : 6 ≤ c := by obtain ⟨A0, c0, he, hc, -⟩ := h; cases he; exact hc
  obtain ⟨ad, hA0, hbl0, hc0⟩ := cell_i h 0 (by decide)
  cases hA0
  obtain ⟨ad1, hA1, hbl1, hc1⟩ := cell_i h 1 (by decide)
  cases hA1
  obtain ⟨ad2, hA2, hbl2, hc2⟩ := cell_i h 2 (by decide)
  cases hA2
  obtain ⟨ad3, hA3, hbl3, hc3⟩ := cell_i h 3 (by decide)
  cases hA3
  obtain ⟨ad4, hA4, hbl4, hc4⟩ := cell_i h 4 (by decide)
  cases hA4
  obtain ⟨ad5, hA5, hbl5, hc5⟩ := cell_i h 5 (by decide)
  cases hA5
  rw [add_nil] at hc0
  rw [add_pos ad 1 (by decide)] at hc1
  rw [add_pos ad 2 (by decide)] at hc2
  rw [add_pos ad 3 (by decide)] at hc3
  rw [add_pos ad 4 (by decide)] at hc4
  rw [add_pos ad 5 (by decide)] at hc5
  have hb0 := below_box w (.cells #[.int .i64 0, .int .i64 0, .int .i64 0, .int .i64 0, .int .i64 0, .string ⟨#[]⟩] 48)
  have hX : Sty.Box (w.alloc (.cells #[.int .i64 0, .int .i64 0, .int .i64 0, .int .i64 0, .int .i64 0, .string ⟨#[]⟩] 48)) w.heap.size (Sty.cP zP) := Sty.Box.new _ _ _
  have d0 := (hb0.cell (p := ad) hbl0).trans hc0
  have d1 := (hb0.cell (p := ⟨ad.block, ad.off + 1, none⟩) (by show ad.block < w.heap.size; exact hbl0)).trans hc1
  have d2 := (hb0.cell (p := ⟨ad.block, ad.off + 2, none⟩) (by show ad.block < w.heap.size; exact hbl0)).trans hc2
  have d3 := (hb0.cell (p := ⟨ad.block, ad.off + 3, none⟩) (by show ad.block < w.heap.size; exact hbl0)).trans hc3
  have d4 := (hb0.cell (p := ⟨ad.block, ad.off + 4, none⟩) (by show ad.block < w.heap.size; exact hbl0)).trans hc4
  have d5 := (hb0.cell (p := ⟨ad.block, ad.off + 5, none⟩) (by show ad.block < w.heap.size; exact hbl0)).trans hc5
  have HX := Lib.hid hX; clear hX
  have HB := Lib.hid hb0; clear hb0
  have HR := Lib.hid ((rd_at (c := c) (show RI w (.slice (some ad) [a, 2, x, y, z, u].length c) [a, 2, x, y, z, u] from h) 3 (by decide)).below HB.out)
  have HP := Lib.hid (fun W => colorPen_yes a hw W)
  clear h hc0 hc1 hc2 hc3 hc4 hc5 hbl1 hbl2 hbl3 hbl4 hbl5 hw
  go_enter Tryd.func95, Tryd.ntmps95
  go_upto_region 1 with fail
  obtain ⟨w1, hw1⟩ : ∃ W, W = w.alloc (.cells #[.int .i64 0, .int .i64 0, .int .i64 0, .int .i64 0, .int .i64 0, .string ⟨#[]⟩] 48) := ⟨_, rfl⟩
  rw [← hw1] at HX HB d0 d1 d2 d3 d4 d5 HR ⊢
  clear hw1
  have HX := Lib.hid HX.out.drew
  have HB := Lib.hid HB.out.drew
  have HR := Lib.hid (HR.out.below ((Below.refl _ w1).drew))
  have e1 : w1.drew.cell? ⟨ad.block, ad.off + 1, none⟩ = some (.int .i64 2) := d1
  have e2 : w1.drew.cell? ⟨ad.block, ad.off + 2, none⟩ = some (.int .i64 x) := d2
  have e3 : w1.drew.cell? ⟨ad.block, ad.off + 3, none⟩ = some (.int .i64 y) := d3
  have e4 : w1.drew.cell? ⟨ad.block, ad.off + 4, none⟩ = some (.int .i64 z) := d4
  have e5 : w1.drew.cell? ⟨ad.block, ad.off + 5, none⟩ = some (.int .i64 u) := d5
  go_upto_region 2 with (go_at_call 92; refine (HP.out _).mono ?_; rintro e w2 ⟨rfl, rfl⟩)
  go_region
  have hadb := Nat.lt_of_lt_of_le hbl0 HB.out.size
  all_goals
    clear d0 d1 d2 d3 d4 d5
    go_upto_region 10 with (go_at_call 73; refine (containsB_any _ 3 _ [y, z, u] _ rfl (HR.out) (by decide)).mono ?_; rw [hy]; rintro e w3 ⟨rfl, hb3⟩; have HX := Lib.hid (HX.out.keep hb3); have HB := Lib.hid (Par.up HB.out hb3); have hsz := HB.out.size; have z0 := HX.out.cell 0 _ rfl; have f0 := HX.out.free 0 (by show 0 < 6; decide); have z1 := HX.out.cell 1 _ rfl; have f1 := HX.out.free 1 (by show 1 < 6; decide); have z2 := HX.out.cell 2 _ rfl; have f2 := HX.out.free 2 (by show 2 < 6; decide); have z3 := HX.out.cell 3 _ rfl; have f3 := HX.out.free 3 (by show 3 < 6; decide); have z4 := HX.out.cell 4 _ rfl; have f4 := HX.out.free 4 (by show 4 < 6; decide); have z5 := HX.out.cell 5 _ rfl; have f5 := HX.out.free 5 (by show 5 < 6; decide); have q3 : w3.cell? ⟨ad.block, ad.off + 3, none⟩ = some (.int .i64 y) := (hb3.cell (p := ⟨ad.block, ad.off + 3, none⟩) hadb).trans e3; have q4 : w3.cell? ⟨ad.block, ad.off + 4, none⟩ = some (.int .i64 z) := (hb3.cell (p := ⟨ad.block, ad.off + 4, none⟩) hadb).trans e4; have q5 : w3.cell? ⟨ad.block, ad.off + 5, none⟩ = some (.int .i64 u) := (hb3.cell (p := ⟨ad.block, ad.off + 5, none⟩) hadb).trans e5)
    have HK := Lib.hid (show ∀ W, Below w.heap.size w3 W → W.cell? ⟨ad.block, ad.off + 3, none⟩ = some (.int .i64 y) ∧ W.cell? ⟨ad.block, ad.off + 4, none⟩ = some (.int .i64 z) ∧ W.cell? ⟨ad.block, ad.off + 5, none⟩ = some (.int .i64 u) from fun W hW => ⟨(hW.cell (p := ⟨ad.block, ad.off + 3, none⟩) hbl0).trans q3, (hW.cell (p := ⟨ad.block, ad.off + 4, none⟩) hbl0).trans q4, (hW.cell (p := ⟨ad.block, ad.off + 5, none⟩) hbl0).trans q5⟩)
    have HX := Lib.hid HX.out.drew
    have G3 := HK.out _ ((Below.refl _ _).drew)
    have HE := Lib.hid (or3 y z u (any3 _ _ _ hy).1 (any3 _ _ _ hy).2.1 (any3 _ _ _ hy).2.2)
    clear z0 f0 z1 f1 z2 f2 z3 f3 z4 f4 z5 f5 q3 q4 q5 e1 e2 e3 e4 e5 hb3 hadb HR
    go_region_held3 (fun W => W.cell? ⟨ad.block, ad.off + 3, none⟩ = some (.int .i64 y) ∧ W.cell? ⟨ad.block, ad.off + 4, none⟩ = some (.int .i64 z) ∧ W.cell? ⟨ad.block, ad.off + 5, none⟩ = some (.int .i64 u))
      (first
        | (with_reducible exact GS)
        | (with_reducible exact G4)
        | (with_reducible exact G3))
      ((go_at_call 88; refine (colored_is _ _ (y * 65536 + z * 256 + u) _ HE.out _).mono ?_; rintro e w4 ⟨rfl, hb4⟩; have D4 : Below w.heap.size w3 w4 := (Below.refl _ _).drew.trans (hb4.mono (by exact HB.out.drew.size)); have G4 := HK.out _ D4; have GS := HK.out _ (below_c6 w.heap.size 39 (whV a) 0 2 (y * 65536 + z * 256 + u) ⟨#[]⟩ D4 (Nat.le_refl _)); have HX4 := Lib.hid (HX.out.keep hb4); have HB4 := Lib.hid (HB.out.drew.trans (hb4.mono (by exact HB.out.drew.size))); have hsz4 := HB4.out.size; have z0 := HX4.out.cell 0 _ rfl; have f0 := HX4.out.free 0 (by show 0 < 6; decide); have z1 := HX4.out.cell 1 _ rfl; have f1 := HX4.out.free 1 (by show 1 < 6; decide); have z2 := HX4.out.cell 2 _ rfl; have f2 := HX4.out.free 2 (by show 2 < 6; decide); have z3 := HX4.out.cell 3 _ rfl; have f3 := HX4.out.free 3 (by show 3 < 6; decide); have z4 := HX4.out.cell 4 _ rfl; have f4 := HX4.out.free 4 (by show 4 < 6; decide); have z5 := HX4.out.cell 5 _ rfl; have f5 := HX4.out.free 5 (by show 5 < 6; decide)))
    have HX := HX4
    have HB := HB4
    clear GS G4 G3 HX4 HB4 D4 hb4 HE HK
    go_wp2_with fail
    refine bodyPost_ret (ret_cell2 rfl _ _ ⟨w.heap.size, 0, none⟩ _ rfl (put_c6 39 (whV a) 0 2 (y * 65536 + z * 256 + u) ⟨#[]⟩ HX.out)) rfl ?_
    unfold OptPost
    rw [HO.out]
    exact ⟨rfl, Sty.below6 _ ⟨39, (whV a), 0, 2, (y * 65536 + z * 256 + u), ⟨#[]⟩⟩ HB.out (Nat.le_refl _)⟩
theorem colorOf_any (v : Value) (p : List Int) (w : World) (h : RI w v p) (h2 : 2 ≤ p.length) (h6 : p.length ≤ 6) : Calls Tryd.prog 95 #[v] w (OptPost w (colO p)) := by
  have hv : ∃ A c, v = .slice A p.length c := by obtain ⟨A, c, rfl, -⟩ := h; exact ⟨A, c, rfl⟩
  obtain ⟨A, c, rfl⟩ := hv
  match p, h2, h6, h with
  | [a, b], _, _, h =>
    by_cases hw : whV a < 0
    · exact col_2n A c a b w h hw
    · exact col_2ynone A c a b w h (by omega : 0 ≤ whV a) rfl
  | [a, b, x], _, _, h =>
    by_cases hw : whV a < 0
    · exact col_3n A c a b x w h hw
    · cases hy : [x].any noB with
      | true => exact col_3yany A c a b x w h (by omega : 0 ≤ whV a) hy
      | false =>
        by_cases hb : b = 5
        · subst hb; exact col_3ypen A c a x w h (by omega : 0 ≤ whV a) hy
        · exact col_3ynone A c a b x w h (by omega : 0 ≤ whV a) hy hb
  | [a, b, x, y], _, _, h =>
    by_cases hw : whV a < 0
    · exact col_4n A c a b x y w h hw
    · cases hy : [x, y].any noB with
      | true => exact col_4yany A c a b x y w h (by omega : 0 ≤ whV a) hy
      | false =>
        exact col_4ynone A c a b x y w h (by omega : 0 ≤ whV a) hy
  | [a, b, x, y, z], _, _, h =>
    by_cases hw : whV a < 0
    · exact col_5n A c a b x y z w h hw
    · cases hy : [x, y, z].any noB with
      | true => exact col_5yany A c a b x y z w h (by omega : 0 ≤ whV a) hy
      | false =>
        by_cases hb : b = 2
        · subst hb; exact col_5ypen A c a x y z w h (by omega : 0 ≤ whV a) hy
        · exact col_5ynone A c a b x y z w h (by omega : 0 ≤ whV a) hy hb
  | [a, b, x, y, z, u], _, _, h =>
    by_cases hw : whV a < 0
    · exact col_6n A c a b x y z u w h hw
    · cases hy : [y, z, u].any noB with
      | true => exact col_6yany A c a b x y z u w h (by omega : 0 ≤ whV a) hy
      | false =>
        by_cases hb : b = 2
        · subst hb; exact col_6ypen A c a x y z u w h (by omega : 0 ≤ whV a) hy
        · exact col_6ynone A c a b x y z u w h (by omega : 0 ≤ whV a) hy hb
  | _ :: _ :: _ :: _ :: _ :: _ :: _ :: _, _, h6, _ => exact absurd h6 (by simp)
end Go.Proofs.YteepfecplabinaaDoor.Sgr

namespace Go.Proofs.YteepfecplabinaaDoor.Sgr
open Go.RowKit Utf Par

/-- the values of parameters -/
def numO (l : List (List Int)) (k : Nat) : List Int := (List.range k).map fun (i : Nat) => valV l (i : Int) 0
theorem numO_snoc (l : List (List Int)) (k : Nat) : numO l (k + 1) = numO l k ++ [valV l (k : Int) 0] := by
  unfold numO; rw [List.range_succ, List.map_append]; rfl
theorem numO_len (l : List (List Int)) (k : Nat) : (numO l k).length = k := by simp [numO]
/-- the pen of several parameters -/
def jonO (l : List (List Int)) : Option Q4 := if l.any manyB then none else colO (numO l l.length)
theorem oV_form (o : Option Q4) : ∃ k n m c0 c1 t, oV o = .agg #[.int .i64 k, .int .i64 n, .int .i64 m, .int .i64 c0, .int .i64 c1, .string t] := by
  cases o with
  | none => exact ⟨_, _, _, _, _, _, rfl⟩
  | some q => exact ⟨_, _, _, _, _, _, rfl⟩
set_option maxRecDepth 100000 in
set_option maxHeartbeats 4000000 in
theorem joined_any (v : Value) (l : List (List Int)) (w : World) (h : RL w v l) (h2 : 2 ≤ l.length) (h6 : l.length ≤ 6) : Calls Tryd.prog 94 #[v] w (OptPost w (jonO l)) := by
  obtain ⟨A, c, hv⟩ := h.form
  obtain ⟨n, hn⟩ : ∃ n, n = l.length := ⟨_, rfl⟩
  rw [← hn] at h2 h6 hv
  subst hv
  obtain ⟨O, hO⟩ : ∃ O, O = jonO l := ⟨_, rfl⟩
  rw [← hO]
  have hb0 := below_box w (.cells #[.int .i64 0, .int .i64 0, .int .i64 0, .int .i64 0, .int .i64 0, .string ⟨#[]⟩] 48)
  have hX : Sty.Box (w.alloc (.cells #[.int .i64 0, .int .i64 0, .int .i64 0, .int .i64 0, .int .i64 0, .string ⟨#[]⟩] 48)) w.heap.size (Sty.cP zP) := Sty.Box.new _ _ _
  have hR := h.keep hb0
  have HC := Lib.hid (fun W h => containsH_any (.slice A n c) l W h (by rw [← hn]; omega))
  have HR := Lib.hid hR; clear hR h
  have HX := Lib.hid hX; clear hX
  have HB := Lib.hid hb0; clear hb0
  have Hn := Lib.hid hn; clear hn
  obtain ⟨t0, hi0, hz0, hz1, hz2⟩ := info_parts infoI
  go_enter Tryd.func94, Tryd.ntmps94
  go_upto_region 1 with fail
  generalize w.alloc (.cells #[.int .i64 0, .int .i64 0, .int .i64 0, .int .i64 0, .int .i64 0, .string ⟨#[]⟩] 48) = w1 at HX HB HR ⊢
  cases hm : l.any manyB with
  | true =>
    have HO := Lib.hid (show O = none by rw [hO]; unfold jonO; rw [hm]; rfl)
    clear hO
    go_wp2_with (go_at_call 43; refine (HC.out _ HR.out).mono ?_; rw [hm]; rintro e w3 ⟨rfl, hb3⟩; have HX := Lib.hid (HX.out.keep hb3); have HB := Lib.hid (Par.up HB.out hb3); have hsz := HB.out.size; have z0 := HX.out.cell 0 _ rfl; have f0 := HX.out.free 0 (by show 0 < 6; decide); have z1 := HX.out.cell 1 _ rfl; have f1 := HX.out.free 1 (by show 1 < 6; decide); have z2 := HX.out.cell 2 _ rfl; have f2 := HX.out.free 2 (by show 2 < 6; decide); have z3 := HX.out.cell 3 _ rfl; have f3 := HX.out.free 3 (by show 3 < 6; decide); have z4 := HX.out.cell 4 _ rfl; have f4 := HX.out.free 4 (by show 4 < 6; decide); have z5 := HX.out.cell 5 _ rfl; have f5 := HX.out.free 5 (by show 5 < 6; decide))
    refine bodyPost_ret (ret_cell2 rfl _ _ ⟨w.heap.size, 0, none⟩ _ rfl (put_c6 0 0 0 0 0 ⟨#[]⟩ HX.out)) rfl ?_
    unfold OptPost
    rw [HO.out]
    exact ⟨rfl, below_c6 _ 0 0 0 0 0 ⟨#[]⟩ HB.out (Nat.le_refl _)⟩
  | false =>
    have HO := Lib.hid (show O = colO (numO l n) by rw [hO, Hn.out]; unfold jonO; rw [hm]; rfl)
    clear hO
    go_upto_region 4 with (go_at_call 43; refine (HC.out _ HR.out).mono ?_; rw [hm]; rintro e w3 ⟨rfl, hb3⟩; have HX := Lib.hid (HX.out.keep hb3); have HR := Lib.hid (HR.out.keep hb3); have HB := Lib.hid (Par.up HB.out hb3))
    clear hb3
    go_wp2_with fail
    go_loopw [11, 4] (fun iv ov wr => ∃ i : Nat, i ≤ n ∧ iv = .int .i64 i ∧ Hid (wr.ownsRow w3.heap.size 3 1 ov i (cI (numO l i)) ∧ Below w3.heap.size w3 wr)) (fun iv _ _ => n - (intOf iv).toNat)
    case atStart => exact ⟨0, Nat.zero_le _, rfl, World.ownsRow_nil _ _ _ _, Below.refl _ _⟩
    case round =>
      obtain ⟨i, hi, rfl, hid⟩ := hrel
      by_cases hlt : i < n
      · obtain ⟨AO, co, hsh, _, _⟩ := own_slice hid.out.1
        subst hsh
        have HV := Lib.hid (value_any _ l (i : Int) 0 _ (HR.out.keep hid.out.2))
        have hlt' : (i : Int) < (n : Int) := by omega
        have Hs := Lib.hid (numO_snoc l i)
        generalize valV l (i : Int) 0 = z at HV Hs
        go_upto_region 8 with (first
          | (go_at_call 93; refine HV.out.mono ?_; rintro e w4 ⟨rfl, hb4⟩; have HB4 := Lib.hid hb4; clear hb4)
          | (at_builtin; refine wpList_app _ rfl _ _ 39 rfl w3.heap.size 3 t0 _ 8 Tryd.underlying39 hi0 hz0 hz1 hz2 rfl _ i (cI (numO l i)) rfl (own_below (own_below hid.out.1 HB4.out) (below_box _ _)) (some ⟨w4.heap.size, 0, none⟩) 1 1 [.int .i64 z] rfl rfl (Rd.one _ _ _) (by intro u hu; simp at hu; subst hu; rfl) (by omega) (by decide) (by rw [World.size_alloc]; have := hid.out.2.size; have := HB4.out.size; omega) ?_; intro v' w' hown hgrow hat; refine Hid.out ?_))
        refine Lib.hid ?_
        have hg : (w4.alloc (.cells #[.int .i64 z] 3)).grownBy w' (Value.slice AO i co).ownBlock := hgrow
        have hbe : Below w3.heap.size w3 w' := (Par.up (Par.up hid.out.2 HB4.out) (below_box _ _)).grown hg (by rw [World.size_alloc]; have := (Par.up hid.out.2 HB4.out).size; omega) (fun r hr => (hid.out.1.lt r hr).1)
        rw [show cI (numO l i) ++ [Value.int .i64 z] = cI (numO l (i + 1)) by rw [Hs.out, cI_append]; rfl] at hown
        obtain ⟨A', c', hsh', _, _⟩ := own_slice hown
        subst hsh'
        have G := Lib.hid (And.intro hown hbe)
        clear hbe hg hgrow hat hown
        go_wp2_with fail
        go_roundw
        case rel => exact ⟨i + 1, by omega, by go_num, G.out⟩
        case measure => simp [intOf]; omega
      · obtain rfl : i = n := by omega
        have hri := RI.grew hid.out.1
        have HX := Lib.hid (HX.out.keep hid.out.2)
        have HB := Lib.hid (Par.up HB.out hid.out.2)
        obtain ⟨AO, co, hsh, _, _⟩ := own_slice hid.out.1
        subst hsh
        have HCO := Lib.hid (colorOf_any _ _ _ hri (by rw [numO_len]; exact h2) (by rw [numO_len]; exact h6))
        rw [← HO.out] at HCO
        obtain ⟨k, n', m, c0, c1, t, hov⟩ := oV_form O
        unfold OptPost at HCO
        rw [hov] at HCO
        clear hri
        go_wp2_with (go_at_call 95; refine HCO.out.mono ?_; rintro e w5 ⟨rfl, hb5⟩; have HX := Lib.hid (HX.out.keep hb5); have HB := Lib.hid (Par.up HB.out hb5); have hsz := HB.out.size; have z0 := HX.out.cell 0 _ rfl; have f0 := HX.out.free 0 (by show 0 < 6; decide); have z1 := HX.out.cell 1 _ rfl; have f1 := HX.out.free 1 (by show 1 < 6; decide); have z2 := HX.out.cell 2 _ rfl; have f2 := HX.out.free 2 (by show 2 < 6; decide); have z3 := HX.out.cell 3 _ rfl; have f3 := HX.out.free 3 (by show 3 < 6; decide); have z4 := HX.out.cell 4 _ rfl; have f4 := HX.out.free 4 (by show 4 < 6; decide); have z5 := HX.out.cell 5 _ rfl; have f5 := HX.out.free 5 (by show 5 < 6; decide))
        refine bodyPost_ret (ret_cell2 rfl _ _ ⟨w.heap.size, 0, none⟩ _ rfl (put_c6 k n' m c0 c1 t HX.out)) rfl ?_
        unfold OptPost
        rw [hov]
        exact ⟨rfl, below_c6 _ k n' m c0 c1 t HB.out (Nat.le_refl _)⟩
theorem item_i {w : World} {A : Option Addr} {n c : Nat} {l : List (List Int)} (h : RL w (.slice A n c) l) {k : Nat} {p : List Int} (hp : l[k]? = some p) :
    ∃ ad v, A = some ad ∧ ad.block < w.heap.size ∧ w.cell? (ad.add k) = some v ∧ RI w v p := by
  obtain ⟨A', c', vs, he, h1, h2, h3, h4, h5, h6⟩ := h
  have hk : k < l.length := (List.getElem?_eq_some_iff.1 hp).1
  obtain ⟨x, hx⟩ := get_some vs k (by omega)
  obtain ⟨ad, rfl, hlt, hc⟩ := h5 k _ hx
  cases he
  exact ⟨ad, x, rfl, hlt, hc, h6 k x p hx hp⟩
/-- how many parameters at the start belong together -/
def tknN (l : List (List Int)) : Nat :=
  match l with
  | p0 :: p1 :: _ =>
    if manyB p0 then 1 else if manyB p1 then 1
    else if whV (valV l 0 0) < 0 then 1
    else if valV l 1 0 = 5 then 3 else if valV l 1 0 = 2 then 5 else 1
  | _ => 1
set_option maxRecDepth 100000 in
set_option maxHeartbeats 4000000 in
theorem taken_any (v : Value) (l : List (List Int)) (w : World) (h : RL w v l) (h1 : l ≠ []) : Calls Tryd.prog 52 #[v] w fun e w' => e = .returned (.int .i64 (tknN l : Nat)) ∧ Below w.heap.size w w' := by
  obtain ⟨A, c, hv⟩ := h.form
  match l, h1 with
  | [p0], _ =>
    rw [show ([p0] : List (List Int)).length = 1 from rfl] at hv
    subst hv
    clear h
    go_enter Tryd.func52, Tryd.ntmps52
    go_wp2
    go_ret
    exact ⟨rfl, Below.refl _ _⟩
  | p0 :: p1 :: r, _ =>
    obtain ⟨n, hn⟩ : ∃ n, n = (p0 :: p1 :: r).length := ⟨_, rfl⟩
    have hn2 : 2 ≤ n := by rw [hn]; simp
    rw [← hn] at hv
    subst hv
    obtain ⟨L, hL⟩ : ∃ L, L = p0 :: p1 :: r := ⟨_, rfl⟩
    rw [← hL] at h ⊢
    obtain ⟨ad, v0, rfl, hbl, hc0, hr0⟩ := item_i h (k := 0) (p := p0) (by rw [hL]; rfl)
    obtain ⟨ad', v1, hae, _, hc1, hr1⟩ := item_i h (k := 1) (p := p1) (by rw [hL]; rfl)
    cases hae
    rw [add_nil] at hc0
    rw [add_pos ad 1 (by decide)] at hc1
    have HT := Lib.hid (show tknN L = if manyB p0 then 1 else if manyB p1 then 1 else if whV (valV L 0 0) < 0 then 1 else if valV L 1 0 = 5 then 3 else if valV L 1 0 = 2 then 5 else 1 by rw [hL]; rfl)
    have HR := Lib.hid h
    have H0 := Lib.hid (fun W h => hasParts_any v0 p0 W h)
    have H1 := Lib.hid (fun W h => hasParts_any v1 p1 W h)
    have R0 := Lib.hid hr0
    have R1 := Lib.hid hr1
    have C1 := Lib.hid (And.intro hbl hc1)
    have i1 : (1 : Int) < (n : Int) := by omega
    have i2 : (0 : Int) < (n : Int) := by omega
    clear hL hn h h1 hr0 hr1
    cases hm0 : manyB p0 with
    | true =>
      have HT := Lib.hid (show tknN L = 1 by rw [HT.out, hm0]; rfl)
      go_enter Tryd.func52, Tryd.ntmps52
      go_wp2_with (go_at_call 91; refine (H0.out _ R0.out).mono ?_; rw [hm0]; rintro e w1 ⟨rfl, hb1⟩)
      go_ret
      exact ⟨by rw [HT.out]; rfl, hb1⟩
    | false =>
      cases hm1 : manyB p1 with
      | true =>
        have HT := Lib.hid (show tknN L = 1 by rw [HT.out, hm0, hm1]; rfl)
        go_enter Tryd.func52, Tryd.ntmps52
        go_wp2_with (first
          | (go_at_call_of 91 (Value.agg #[v0]); refine (H0.out _ R0.out).mono ?_; rw [hm0]; rintro e w1 ⟨rfl, hb1⟩; have hB1 := Lib.hid hb1; have x1 := (hb1.cell (p := ⟨ad.block, ad.off + 1, none⟩) C1.out.1).trans C1.out.2)
          | (go_at_call_of 91 (Value.agg #[v1]); refine (H1.out _ (R1.out.keep hB1.out)).mono ?_; rw [hm1]; rintro e w2 ⟨rfl, hb2⟩; have hB2 := Lib.hid (up hB1.out hb2)))
        go_ret
        exact ⟨by rw [HT.out]; rfl, hB2.out⟩
      | false =>
        have HV0 := Lib.hid (fun W h => value_any (.slice (some ad) n c) L 0 0 W h)
        have HV1 := Lib.hid (fun W h => value_any (.slice (some ad) n c) L 1 0 W h)
        rw [hm0, hm1] at HT
        simp only [Bool.false_eq_true, if_false] at HT
        generalize valV L 0 0 = a at HV0 HT
        generalize valV L 1 0 = b at HV1 HT
        by_cases hw : whV a < 0
        · have HP := Lib.hid (fun W => colorPen_no a hw W)
          have HT := Lib.hid (show tknN L = 1 by rw [HT.out, if_pos hw])
          clear hw
          go_enter Tryd.func52, Tryd.ntmps52
          go_wp2_with (first
            | (go_at_call_of 91 (Value.agg #[v0]); refine (H0.out _ R0.out).mono ?_; rw [hm0]; rintro e w1 ⟨rfl, hb1⟩; have hB1 := Lib.hid hb1; have x1 := (hb1.cell (p := ⟨ad.block, ad.off + 1, none⟩) C1.out.1).trans C1.out.2)
            | (go_at_call_of 91 (Value.agg #[v1]); refine (H1.out _ (R1.out.keep hB1.out)).mono ?_; rw [hm1]; rintro e w2 ⟨rfl, hb2⟩; have hB2 := Lib.hid (up hB1.out hb2); clear hb2)
            | (have hh := hB3; go_at_call 93; refine (HV1.out _ (HR.out.keep hB3.out)).mono ?_; rintro e w4 ⟨rfl, hb4⟩; have hB4 := Lib.hid (up hB3.out hb4); clear hb4 hh)
            | (go_at_call 93; refine (HV0.out _ (HR.out.keep hB2.out)).mono ?_; rintro e w3 ⟨rfl, hb3⟩; have hB3 := Lib.hid (up hB2.out hb3); clear hb3)
            | (go_at_call 92; refine (HP.out _).mono ?_; rintro e w5 ⟨rfl, rfl⟩))
          go_ret
          exact ⟨by rw [HT.out]; rfl, hB3.out⟩
        · have HP := Lib.hid (fun W => colorPen_yes a (by omega) W)
          rw [if_neg hw] at HT
          clear hw
          by_cases h5 : b = 5
          · subst h5
            have HT := Lib.hid (show tknN L = 3 by rw [HT.out]; rfl)
            go_enter Tryd.func52, Tryd.ntmps52
            go_wp2_with (first
            | (go_at_call_of 91 (Value.agg #[v0]); refine (H0.out _ R0.out).mono ?_; rw [hm0]; rintro e w1 ⟨rfl, hb1⟩; have hB1 := Lib.hid hb1; have x1 := (hb1.cell (p := ⟨ad.block, ad.off + 1, none⟩) C1.out.1).trans C1.out.2)
            | (go_at_call_of 91 (Value.agg #[v1]); refine (H1.out _ (R1.out.keep hB1.out)).mono ?_; rw [hm1]; rintro e w2 ⟨rfl, hb2⟩; have hB2 := Lib.hid (up hB1.out hb2); clear hb2)
            | (have hh := hB3; go_at_call 93; refine (HV1.out _ (HR.out.keep hB3.out)).mono ?_; rintro e w4 ⟨rfl, hb4⟩; have hB4 := Lib.hid (up hB3.out hb4); clear hb4 hh)
            | (go_at_call 93; refine (HV0.out _ (HR.out.keep hB2.out)).mono ?_; rintro e w3 ⟨rfl, hb3⟩; have hB3 := Lib.hid (up hB2.out hb3); clear hb3)
            | (go_at_call 92; refine (HP.out _).mono ?_; rintro e w5 ⟨rfl, rfl⟩))
            go_ret
            exact ⟨by rw [HT.out]; rfl, hB4.out⟩
          · by_cases h2 : b = 2
            · subst h2
              have HT := Lib.hid (show tknN L = 5 by rw [HT.out]; rfl)
              go_enter Tryd.func52, Tryd.ntmps52
              go_wp2_with (first
            | (go_at_call_of 91 (Value.agg #[v0]); refine (H0.out _ R0.out).mono ?_; rw [hm0]; rintro e w1 ⟨rfl, hb1⟩; have hB1 := Lib.hid hb1; have x1 := (hb1.cell (p := ⟨ad.block, ad.off + 1, none⟩) C1.out.1).trans C1.out.2)
            | (go_at_call_of 91 (Value.agg #[v1]); refine (H1.out _ (R1.out.keep hB1.out)).mono ?_; rw [hm1]; rintro e w2 ⟨rfl, hb2⟩; have hB2 := Lib.hid (up hB1.out hb2); clear hb2)
            | (have hh := hB3; go_at_call 93; refine (HV1.out _ (HR.out.keep hB3.out)).mono ?_; rintro e w4 ⟨rfl, hb4⟩; have hB4 := Lib.hid (up hB3.out hb4); clear hb4 hh)
            | (go_at_call 93; refine (HV0.out _ (HR.out.keep hB2.out)).mono ?_; rintro e w3 ⟨rfl, hb3⟩; have hB3 := Lib.hid (up hB2.out hb3); clear hb3)
            | (go_at_call 92; refine (HP.out _).mono ?_; rintro e w5 ⟨rfl, rfl⟩))
              go_ret
              exact ⟨by rw [HT.out]; rfl, hB4.out⟩
            · have HT := Lib.hid (show tknN L = 1 by rw [HT.out, if_neg h5, if_neg h2])
              have g5 : (b == 5) = false := by simp [h5]
              have g2 : (b == 2) = false := by simp [h2]
              clear h5 h2
              go_enter Tryd.func52, Tryd.ntmps52
              go_wp2_with (first
            | (go_at_call_of 91 (Value.agg #[v0]); refine (H0.out _ R0.out).mono ?_; rw [hm0]; rintro e w1 ⟨rfl, hb1⟩; have hB1 := Lib.hid hb1; have x1 := (hb1.cell (p := ⟨ad.block, ad.off + 1, none⟩) C1.out.1).trans C1.out.2)
            | (go_at_call_of 91 (Value.agg #[v1]); refine (H1.out _ (R1.out.keep hB1.out)).mono ?_; rw [hm1]; rintro e w2 ⟨rfl, hb2⟩; have hB2 := Lib.hid (up hB1.out hb2); clear hb2)
            | (have hh := hB3; go_at_call 93; refine (HV1.out _ (HR.out.keep hB3.out)).mono ?_; rintro e w4 ⟨rfl, hb4⟩; have hB4 := Lib.hid (up hB3.out hb4); clear hb4 hh)
            | (go_at_call 93; refine (HV0.out _ (HR.out.keep hB2.out)).mono ?_; rintro e w3 ⟨rfl, hb3⟩; have hB3 := Lib.hid (up hB2.out hb3); clear hb3)
            | (go_at_call 92; refine (HP.out _).mono ?_; rintro e w5 ⟨rfl, rfl⟩))
              go_ret
              exact ⟨by rw [HT.out]; rfl, hB4.out⟩
end Go.Proofs.YteepfecplabinaaDoor.Sgr

namespace Go.Proofs.YteepfecplabinaaDoor.Sgr
open Go.RowKit Utf Par

/-- the zero action, as a look-up gives it -/
def zQ : Value := .agg #[.int .i64 0, .int .i64 0, .int .i64 0, .int .i64 0, .int .i64 0, .string ⟨#[]⟩]
theorem look_some (g : Nat) (w : World) (l : List KQ) (hl : l ≠ []) (h : w.heap[g]? = some (mapQ l)) (k : Int) (p : Q4) (hk : getQ l k = some p) :
    (Instr.lookup 99 (.map (some g)) (.int .i64 k) true).run Tryd.prog w = .ok (.tuple #[.agg #[.int .i64 39, .int .i64 p.n, .int .i64 p.m, .int .i64 p.c0, .int .i64 p.c1, .string ⟨#[]⟩], .bool true]) w := by
  obtain ⟨z, hz⟩ := look_q g w l hl h k
  rw [hk] at hz
  exact hz
theorem look_none (g : Nat) (w : World) (l : List KQ) (hl : l ≠ []) (h : w.heap[g]? = some (mapQ l)) (k : Int) (hk : getQ l k = none) :
    (Instr.lookup 99 (.map (some g)) (.int .i64 k) true).run Tryd.prog w = .ok (.tuple #[.agg #[.int .i64 0, .int .i64 0, .int .i64 0, .int .i64 0, .int .i64 0, .string ⟨#[]⟩], .bool false]) w := by
  have hb : w.heap[g]? = some (.map (entQ l 0).toArray l.length) := h
  have hc : ∀ x, (Instr.checkKey false 10000 3 (.int .i64 k)).run Tryd.prog x = .ok () x := fun x => MapKept.run_checkKey (k := .int .i64 k) Tryd.underlying3 (by simp [MapKept.IsKey]) false 9999
  have he : (entQ l 0).toArray.isEmpty = false := by
    cases l with
    | nil => exact absurd rfl hl
    | cons x l => obtain ⟨a, p⟩ := x; rfl
  have hk' : Instr.findNow (.int .i64) (.int .i64 k) (entQ l 0).toArray.toList 0 = some (fndQ l k 0) := by
    rw [List.toList_toArray, find_q]
  have hg := fnd_get l k 0
  rw [hk] at hg
  cases hf : fndQ l k 0 with
  | none =>
    rw [hf] at hk'
    simp [Instr.lookup, run_underlying Tryd.underlying99, MapKept.run_getObj_map hb, he, hc, MapKept.run_findKey Tryd.underlying3 hk', Result.andThen]
  | some x => rw [hf] at hg; simp at hg
/-- a single parameter -/
def sglO (p : List Int) : Option Q4 :=
  if p.length = 1 then simV (max 0 (p.getD 0 0))
  else if p.length = 2 ∧ p.getD 0 0 = 4 then (if 0 ≤ p.getD 1 0 ∧ p.getD 1 0 ≤ 5 then some (pq 3 (p.getD 1 0)) else none)
  else colO p
def denO (l : List (List Int)) : Option Q4 := if 1 < l.length then jonO l else sglO (l.getD 0 [])
/-- an action, and whether there is one -/
def DenPost (w : World) (o : Option Q4) (e : Ending) (w' : World) : Prop :=
  ∃ k n m c0 c1 t, e = .returned (.tuple #[.agg #[.int .i64 k, .int .i64 n, .int .i64 m, .int .i64 c0, .int .i64 c1, .string t], .bool o.isSome]) ∧ (∀ q, o = some q → Value.agg #[.int .i64 k, .int .i64 n, .int .i64 m, .int .i64 c0, .int .i64 c1, .string t] = qV q) ∧ Below w.heap.size w w'
theorem den_of {o : Option Q4} {k n m c0 c1 : Int} {t : ByteArray} (h : oV o = .agg #[.int .i64 k, .int .i64 n, .int .i64 m, .int .i64 c0, .int .i64 c1, .string t]) : ∀ q, o = some q → Value.agg #[.int .i64 k, .int .i64 n, .int .i64 m, .int .i64 c0, .int .i64 c1, .string t] = qV q := fun q hq => by
  rw [← h, hq]; rfl
set_option maxRecDepth 100000 in
set_option maxHeartbeats 4000000 in
/-- several parameters -/
theorem denoted_many (g : Nat) (v : Value) (l : List (List Int)) (w : World) (h : RL w v l) (h2 : 2 ≤ l.length) (h6 : l.length ≤ 6) : Calls Tryd.prog 53 #[v, .map (some g)] w (DenPost w (jonO l)) := by
  obtain ⟨A, c, hv⟩ := h.form
  obtain ⟨n, hn⟩ : ∃ n, n = l.length := ⟨_, rfl⟩
  have hb0 := below_box w (.cells #[.int .i64 0, .int .i64 0, .int .i64 0, .int .i64 0, .int .i64 0, .string ⟨#[]⟩] 48)
  have hX : Sty.Box (w.alloc (.cells #[.int .i64 0, .int .i64 0, .int .i64 0, .int .i64 0, .int .i64 0, .string ⟨#[]⟩] 48)) w.heap.size (Sty.cP zP) := Sty.Box.new _ _ _
  have HJ := Lib.hid (joined_any v l _ (h.keep hb0) h2 h6)
  rw [← hn] at h2 h6 hv
  subst hv
  obtain ⟨p0, hp0⟩ := get_some l 0 (by omega)
  obtain ⟨ad, v0, rfl, hbl, hc0, hr0⟩ := item_i h hp0
  rw [add_nil] at hc0
  have d0 := (hb0.cell (p := ad) hbl).trans hc0
  obtain ⟨O, hO⟩ : ∃ O, O = jonO l := ⟨_, rfl⟩
  rw [← hO] at HJ ⊢
  obtain ⟨k, n', m, c0, c1, t, hov⟩ := oV_form O
  unfold OptPost at HJ
  rw [hov] at HJ
  have HD := Lib.hid (den_of hov)
  have HX := Lib.hid hX; clear hX
  have HB := Lib.hid hb0; clear hb0
  have i1 : (0 : Int) < (n : Int) := by omega
  have i2 : (1 : Int) < (n : Int) := by omega
  clear hO hov h hp0 hc0 hr0 hn
  go_enter Tryd.func53, Tryd.ntmps53
  go_upto_region 1 with fail
  generalize w.alloc (.cells #[.int .i64 0, .int .i64 0, .int .i64 0, .int .i64 0, .int .i64 0, .string ⟨#[]⟩] 48) = w1 at HX HB HJ d0 ⊢
  go_wp2_with (go_at_call 94; refine HJ.out.mono ?_; rintro e w5 ⟨rfl, hb5⟩; have HX := Lib.hid (HX.out.keep hb5); have HB := Lib.hid (Par.up HB.out hb5); have hsz := HB.out.size; have z0 := HX.out.cell 0 _ rfl; have f0 := HX.out.free 0 (by show 0 < 6; decide); have z1 := HX.out.cell 1 _ rfl; have f1 := HX.out.free 1 (by show 1 < 6; decide); have z2 := HX.out.cell 2 _ rfl; have f2 := HX.out.free 2 (by show 2 < 6; decide); have z3 := HX.out.cell 3 _ rfl; have f3 := HX.out.free 3 (by show 3 < 6; decide); have z4 := HX.out.cell 4 _ rfl; have f4 := HX.out.free 4 (by show 4 < 6; decide); have z5 := HX.out.cell 5 _ rfl; have f5 := HX.out.free 5 (by show 5 < 6; decide))
  refine bodyPost_ret (ret_cell2 rfl _ _ ⟨w.heap.size, 0, none⟩ _ rfl (put_c6 k n' m c0 c1 t HX.out)) rfl ?_
  exact ⟨k, n', m, c0, c1, t, rfl, HD.out, below_c6 _ k n' m c0 c1 t HB.out (Nat.le_refl _)⟩
set_option maxRecDepth 100000 in
set_option maxHeartbeats 4000000 in
/-- a parameter with one part -/
theorem denoted_one (g : Nat) (v : Value) (z : Int) (w : World) (h : RL w v [[z]]) (hm : w.heap[g]? = some (mapQ tabQ)) : Calls Tryd.prog 53 #[v, .map (some g)] w (DenPost w (simV (max 0 z))) := by
  obtain ⟨A, c, hv⟩ := h.form
  have hb0 := below_box w (.cells #[.int .i64 0, .int .i64 0, .int .i64 0, .int .i64 0, .int .i64 0, .string ⟨#[]⟩] 48)
  have hX : Sty.Box (w.alloc (.cells #[.int .i64 0, .int .i64 0, .int .i64 0, .int .i64 0, .int .i64 0, .string ⟨#[]⟩] 48)) w.heap.size (Sty.cP zP) := Sty.Box.new _ _ _
  have HV := Lib.hid (value_any v [[z]] 0 0 _ (h.keep hb0))
  have hz : valV [[z]] 0 0 = max 0 z := by
    unfold valV
    rw [if_neg (show ¬ ((0 : Int) < 0 ∨ (([[z]] : List (List Int)).length : Int) ≤ 0) by simp)]
    show (if z < 0 then 0 else z) = max 0 z
    split <;> omega
  rw [hz] at HV
  rw [show ([[z]] : List (List Int)).length = 1 from rfl] at hv
  subst hv
  obtain ⟨ad, v0, rfl, hbl, hc0, hr0⟩ := item_i h (k := 0) (p := [z]) rfl
  obtain ⟨B, cb, hv0, -⟩ := hr0
  rw [show ([z] : List Int).length = 1 from rfl] at hv0
  subst hv0
  rw [add_nil] at hc0
  have d0 := (hb0.cell (p := ad) hbl).trans hc0
  obtain ⟨k0, hk0⟩ : ∃ k0, k0 = max 0 z := ⟨_, rfl⟩
  rw [← hk0] at HV ⊢
  have hgl := (Array.getElem?_eq_some_iff.1 hm).1
  have HM := Lib.hid ((hb0.block g hgl).trans hm)
  have HX := Lib.hid hX; clear hX
  have HB := Lib.hid hb0; clear hb0
  clear h hc0 hz hk0 hm
  have hne : tabQ ≠ [] := by decide
  cases hs : simV k0 with
  | none =>
    have hq := (tab_is k0).trans hs
    go_enter Tryd.func53, Tryd.ntmps53
    go_upto_region 1 with fail
    generalize w.alloc (.cells #[.int .i64 0, .int .i64 0, .int .i64 0, .int .i64 0, .int .i64 0, .string ⟨#[]⟩] 48) = w1 at HX HB HV HM d0 ⊢
    go_upto_region 6 with (go_at_call 93; refine HV.out.mono ?_; rintro e w5 ⟨rfl, hb5⟩; have hl := look_none g w5 tabQ hne ((hb5.block g (by have := HB.out.size; omega)).trans HM.out) k0 hq; have HX := Lib.hid (HX.out.keep hb5); have HB := Lib.hid (Par.up HB.out hb5))
    have HX := Lib.hid (HX.out.alloc (.cells #[.int .i64 0, .int .i64 0, .int .i64 0, .int .i64 0, .int .i64 0, .string ⟨#[]⟩] 48))
    have HB := Lib.hid (Par.up HB.out (below_box w5 (.cells #[.int .i64 0, .int .i64 0, .int .i64 0, .int .i64 0, .int .i64 0, .string ⟨#[]⟩] 48)))
    have HY : Sty.Box (w5.alloc (.cells #[.int .i64 0, .int .i64 0, .int .i64 0, .int .i64 0, .int .i64 0, .string ⟨#[]⟩] 48)) w5.heap.size [.int .i64 0, .int .i64 0, .int .i64 0, .int .i64 0, .int .i64 0, .string ⟨#[]⟩] := Sty.Box.new _ _ _
    clear hl hb5
    generalize w5.alloc (.cells #[.int .i64 0, .int .i64 0, .int .i64 0, .int .i64 0, .int .i64 0, .string ⟨#[]⟩] 48) = w6 at HX HB HY ⊢
    have HY := Lib.hid HY
    have hsz := HB.out.size
    have z0 := HX.out.cell 0 _ rfl
    have f0 := HX.out.free 0 (by show 0 < 6; decide)
    have y0 := HY.out.cell 0 _ rfl
    have z1 := HX.out.cell 1 _ rfl
    have f1 := HX.out.free 1 (by show 1 < 6; decide)
    have y1 := HY.out.cell 1 _ rfl
    have z2 := HX.out.cell 2 _ rfl
    have f2 := HX.out.free 2 (by show 2 < 6; decide)
    have y2 := HY.out.cell 2 _ rfl
    have z3 := HX.out.cell 3 _ rfl
    have f3 := HX.out.free 3 (by show 3 < 6; decide)
    have y3 := HY.out.cell 3 _ rfl
    have z4 := HX.out.cell 4 _ rfl
    have f4 := HX.out.free 4 (by show 4 < 6; decide)
    have y4 := HY.out.cell 4 _ rfl
    have z5 := HX.out.cell 5 _ rfl
    have f5 := HX.out.free 5 (by show 5 < 6; decide)
    have y5 := HY.out.cell 5 _ rfl
    go_wp2_with fail
    refine bodyPost_ret (ret_cell2 rfl _ _ ⟨w.heap.size, 0, none⟩ _ rfl (put_c6 0 0 0 0 0 ⟨#[]⟩ HX.out)) rfl ?_
    exact ⟨0, 0, 0, 0, 0, ⟨#[]⟩, rfl, (fun q h => by cases h), below_c6 _ 0 0 0 0 0 ⟨#[]⟩ HB.out (Nat.le_refl _)⟩
  | some q =>
    have hq := (tab_is k0).trans hs
    go_enter Tryd.func53, Tryd.ntmps53
    go_upto_region 1 with fail
    generalize w.alloc (.cells #[.int .i64 0, .int .i64 0, .int .i64 0, .int .i64 0, .int .i64 0, .string ⟨#[]⟩] 48) = w1 at HX HB HV HM d0 ⊢
    go_upto_region 6 with (go_at_call 93; refine HV.out.mono ?_; rintro e w5 ⟨rfl, hb5⟩; have hl := look_some g w5 tabQ hne ((hb5.block g (by have := HB.out.size; omega)).trans HM.out) k0 q hq; have HX := Lib.hid (HX.out.keep hb5); have HB := Lib.hid (Par.up HB.out hb5))
    have HX := Lib.hid (HX.out.alloc (.cells #[.int .i64 39, .int .i64 q.n, .int .i64 q.m, .int .i64 q.c0, .int .i64 q.c1, .string ⟨#[]⟩] 48))
    have HB := Lib.hid (Par.up HB.out (below_box w5 (.cells #[.int .i64 39, .int .i64 q.n, .int .i64 q.m, .int .i64 q.c0, .int .i64 q.c1, .string ⟨#[]⟩] 48)))
    have HY : Sty.Box (w5.alloc (.cells #[.int .i64 39, .int .i64 q.n, .int .i64 q.m, .int .i64 q.c0, .int .i64 q.c1, .string ⟨#[]⟩] 48)) w5.heap.size [.int .i64 39, .int .i64 q.n, .int .i64 q.m, .int .i64 q.c0, .int .i64 q.c1, .string ⟨#[]⟩] := Sty.Box.new _ _ _
    clear hl hb5
    generalize w5.alloc (.cells #[.int .i64 39, .int .i64 q.n, .int .i64 q.m, .int .i64 q.c0, .int .i64 q.c1, .string ⟨#[]⟩] 48) = w6 at HX HB HY ⊢
    have HY := Lib.hid HY
    have hsz := HB.out.size
    have z0 := HX.out.cell 0 _ rfl
    have f0 := HX.out.free 0 (by show 0 < 6; decide)
    have y0 := HY.out.cell 0 _ rfl
    have z1 := HX.out.cell 1 _ rfl
    have f1 := HX.out.free 1 (by show 1 < 6; decide)
    have y1 := HY.out.cell 1 _ rfl
    have z2 := HX.out.cell 2 _ rfl
    have f2 := HX.out.free 2 (by show 2 < 6; decide)
    have y2 := HY.out.cell 2 _ rfl
    have z3 := HX.out.cell 3 _ rfl
    have f3 := HX.out.free 3 (by show 3 < 6; decide)
    have y3 := HY.out.cell 3 _ rfl
    have z4 := HX.out.cell 4 _ rfl
    have f4 := HX.out.free 4 (by show 4 < 6; decide)
    have y4 := HY.out.cell 4 _ rfl
    have z5 := HX.out.cell 5 _ rfl
    have f5 := HX.out.free 5 (by show 5 < 6; decide)
    have y5 := HY.out.cell 5 _ rfl
    go_wp2_with fail
    refine bodyPost_ret (ret_cell2 rfl _ _ ⟨w.heap.size, 0, none⟩ _ rfl (put_c6 39 q.n q.m q.c0 q.c1 ⟨#[]⟩ HX.out)) rfl ?_
    exact ⟨39, q.n, q.m, q.c0, q.c1, ⟨#[]⟩, rfl, (fun r h => by cases h; rfl), below_c6 _ 39 q.n q.m q.c0 q.c1 ⟨#[]⟩ HB.out (Nat.le_refl _)⟩
end Go.Proofs.YteepfecplabinaaDoor.Sgr
