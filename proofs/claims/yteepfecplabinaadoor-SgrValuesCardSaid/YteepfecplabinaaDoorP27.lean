/-
  SgrE SgrF SgrK SgrN
-/
import Derived.Test.YteepfecplabinaaDoorP20
import Derived.Test.YteepfecplabinaaDoorP22
import Derived.Test.YteepfecplabinaaDoorP23
import Derived.Test.YteepfecplabinaaDoorP26
namespace Go.Proofs.YteepfecplabinaaDoor.Sgr
open Go.RowKit Utf

/-- a pen as an action -/
def pP (q : Q4) : Sty.P6 := ⟨39, q.n, q.m, q.c0, q.c1, ⟨#[]⟩⟩
def qP (p : Sty.P6) : Q4 := ⟨p.n, p.m, p.c0, p.c1⟩
theorem okP_pP (q : Q4) : Sty.okP (pP q) = okQ q := by
  unfold Sty.okP okQ pP
  simp
theorem loop_len (t : ByteArray) : ∀ (k i : Nat) (r : List UInt8), t.size - i = k → (ByteArray.toList.loop t i r).length = k + r.length := by
  intro k
  induction k with
  | zero =>
    intro i r h
    unfold ByteArray.toList.loop
    rw [if_neg (by omega)]
    simp
  | succ k ih =>
    intro i r h
    unfold ByteArray.toList.loop
    rw [if_pos (by omega), ih _ _ (by omega), List.length_cons]
    omega
theorem empty_of (t : ByteArray) (h : t.toList = []) : t = ⟨#[]⟩ := by
  have hl := loop_len t _ 0 [] rfl
  have h0 : (ByteArray.toList.loop t 0 []).length = 0 := by
    have : ByteArray.toList.loop t 0 [] = t.toList := rfl
    rw [this, h]; rfl
  rw [h0] at hl
  have hs : t.size = 0 := by simp at hl; omega
  obtain ⟨d⟩ := t
  have hd : d.size = 0 := hs
  rw [Array.size_eq_zero_iff] at hd
  rw [hd]
theorem pP_of (p : Sty.P6) (h : Sty.okP p = true) : p = pP (qP p) ∧ okQ (qP p) = true := by
  obtain ⟨k, n, m, c0, c1, t⟩ := p
  simp only [Sty.okP, Bool.and_eq_true, beq_iff_eq] at h
  obtain ⟨rfl, ht, hf⟩ := h
  have ht2 : t = ⟨#[]⟩ := empty_of t (by simpa using ht)
  subst ht2
  exact ⟨rfl, hf⟩
theorem und_prm (m : Int) : prmV (pq 3 m) = undV m := rfl
theorem col_prm (n k c : Int) (hn : n = 4 ∨ n = 5 ∨ n = 6) : prmV (cq n k c) = colP n k c := by
  rcases hn with rfl | rfl | rfl <;> rfl
set_option maxRecDepth 100000 in
theorem parts_0 (w : World) : Calls Tryd.prog 37 #[qV (pq 0 0)] w (RowPost w (prmV (pq 0 0))) := by
  have H0 := Lib.hid (below_box w (.cells #[.int .i64 39, .int .i64 0, .int .i64 0, .int .i64 0, .int .i64 0, .string ⟨#[]⟩] 48))
  unfold qV pq
  go_enter Tryd.func37, Tryd.ntmps37
  go_wp2
  go_ret
  exact row_lit w _ _ [0] 1 (World.size_alloc _ _).symm rfl (by decide) H0.out
theorem RowPost.up {w w1 W : World} {p : List Int} {e : Ending} (h : RowPost w1 p e W) (hb : Below w.heap.size w w1) : RowPost w p e W := by
  obtain ⟨v, h1, h2, h3⟩ := h
  exact ⟨v, h1, Par.own_mono h2 hb.size, Par.up hb h3⟩
set_option maxRecDepth 100000 in
theorem parts_3 (m : Int) (w : World) : Calls Tryd.prog 37 #[qV (pq 3 m)] w (RowPost w (prmV (pq 3 m))) := by
  rw [und_prm]
  have H0 := Lib.hid (below_box w (.cells #[.int .i64 39, .int .i64 3, .int .i64 m, .int .i64 0, .int .i64 0, .string ⟨#[]⟩] 48))
  unfold qV pq
  go_enter Tryd.func37, Tryd.ntmps37
  go_wp2_with (go_at_call 61; refine (under_any m _).mono ?_; rintro e w1 ⟨v, rfl, hv⟩; have HV := Lib.hid hv; clear hv)
  go_ret
  exact RowPost.up ⟨v, rfl, HV.out⟩ H0.out
set_option maxRecDepth 100000 in
theorem parts_c (n k c : Int) (w : World) (hn : n = 4 ∨ n = 5 ∨ n = 6) (hk : Col.okC k c = true) : Calls Tryd.prog 37 #[qV (cq n k c)] w (RowPost w (prmV (cq n k c))) := by
  rw [col_prm n k c hn]
  have H0 := Lib.hid (below_box w (.cells #[.int .i64 39, .int .i64 n, .int .i64 0, .int .i64 k, .int .i64 c, .string ⟨#[]⟩] 48))
  have HC := Lib.hid (fun W => colors_any n k c W hn hk)
  clear hk
  unfold qV cq
  rcases hn with rfl | rfl | rfl
  all_goals
    go_enter Tryd.func37, Tryd.ntmps37
    go_wp2_with (go_at_call 62; refine (HC.out _).mono ?_; rintro e w1 ⟨v, rfl, hv⟩; have HV := Lib.hid hv; clear hv)
    go_ret
    exact RowPost.up ⟨v, rfl, HV.out⟩ H0.out
set_option maxRecDepth 100000 in
theorem parts_1_1 (w : World) (he : Env w) : Calls Tryd.prog 37 #[qV (pq 1 1)] w (RowPost w (prmV (pq 1 1))) := by
  have hb0 := below_box w (.cells #[.int .i64 39, .int .i64 1, .int .i64 1, .int .i64 0, .int .i64 0, .string ⟨#[]⟩] 48)
  have e1 := he.keep hb0
  have c1 := e1.set 0 1 rfl
  have HT := Lib.hid (tz_1 _ e1)
  have H0 := Lib.hid hb0
  clear hb0 e1 he
  unfold qV pq
  go_enter Tryd.func37, Tryd.ntmps37
  go_wp2_with (go_at_call 60; refine HT.out.mono ?_; rintro e w1 ⟨rfl, rfl⟩)
  go_ret
  exact row_lit w _ _ [1] 1 (World.size_alloc _ _).symm rfl (by decide) H0.out
set_option maxRecDepth 100000 in
theorem parts_1_2 (w : World) (he : Env w) : Calls Tryd.prog 37 #[qV (pq 1 2)] w (RowPost w (prmV (pq 1 2))) := by
  have hb0 := below_box w (.cells #[.int .i64 39, .int .i64 1, .int .i64 2, .int .i64 0, .int .i64 0, .string ⟨#[]⟩] 48)
  have e1 := he.keep hb0
  have c1 := e1.set 1 2 rfl
  have HT := Lib.hid (tz_2 _ e1)
  have H0 := Lib.hid hb0
  clear hb0 e1 he
  unfold qV pq
  go_enter Tryd.func37, Tryd.ntmps37
  go_wp2_with (go_at_call 60; refine HT.out.mono ?_; rintro e w1 ⟨rfl, rfl⟩)
  go_ret
  exact row_lit w _ _ [2] 1 (World.size_alloc _ _).symm rfl (by decide) H0.out
set_option maxRecDepth 100000 in
theorem parts_1_4 (w : World) (he : Env w) : Calls Tryd.prog 37 #[qV (pq 1 4)] w (RowPost w (prmV (pq 1 4))) := by
  have hb0 := below_box w (.cells #[.int .i64 39, .int .i64 1, .int .i64 4, .int .i64 0, .int .i64 0, .string ⟨#[]⟩] 48)
  have e1 := he.keep hb0
  have c1 := e1.set 2 3 rfl
  have HT := Lib.hid (tz_4 _ e1)
  have H0 := Lib.hid hb0
  clear hb0 e1 he
  unfold qV pq
  go_enter Tryd.func37, Tryd.ntmps37
  go_wp2_with (go_at_call 60; refine HT.out.mono ?_; rintro e w1 ⟨rfl, rfl⟩)
  go_ret
  exact row_lit w _ _ [3] 1 (World.size_alloc _ _).symm rfl (by decide) H0.out
set_option maxRecDepth 100000 in
theorem parts_1_8 (w : World) (he : Env w) : Calls Tryd.prog 37 #[qV (pq 1 8)] w (RowPost w (prmV (pq 1 8))) := by
  have hb0 := below_box w (.cells #[.int .i64 39, .int .i64 1, .int .i64 8, .int .i64 0, .int .i64 0, .string ⟨#[]⟩] 48)
  have e1 := he.keep hb0
  have c1 := e1.set 3 5 rfl
  have HT := Lib.hid (tz_8 _ e1)
  have H0 := Lib.hid hb0
  clear hb0 e1 he
  unfold qV pq
  go_enter Tryd.func37, Tryd.ntmps37
  go_wp2_with (go_at_call 60; refine HT.out.mono ?_; rintro e w1 ⟨rfl, rfl⟩)
  go_ret
  exact row_lit w _ _ [5] 1 (World.size_alloc _ _).symm rfl (by decide) H0.out
set_option maxRecDepth 100000 in
theorem parts_1_16 (w : World) (he : Env w) : Calls Tryd.prog 37 #[qV (pq 1 16)] w (RowPost w (prmV (pq 1 16))) := by
  have hb0 := below_box w (.cells #[.int .i64 39, .int .i64 1, .int .i64 16, .int .i64 0, .int .i64 0, .string ⟨#[]⟩] 48)
  have e1 := he.keep hb0
  have c1 := e1.set 4 7 rfl
  have HT := Lib.hid (tz_16 _ e1)
  have H0 := Lib.hid hb0
  clear hb0 e1 he
  unfold qV pq
  go_enter Tryd.func37, Tryd.ntmps37
  go_wp2_with (go_at_call 60; refine HT.out.mono ?_; rintro e w1 ⟨rfl, rfl⟩)
  go_ret
  exact row_lit w _ _ [7] 1 (World.size_alloc _ _).symm rfl (by decide) H0.out
set_option maxRecDepth 100000 in
theorem parts_1_32 (w : World) (he : Env w) : Calls Tryd.prog 37 #[qV (pq 1 32)] w (RowPost w (prmV (pq 1 32))) := by
  have hb0 := below_box w (.cells #[.int .i64 39, .int .i64 1, .int .i64 32, .int .i64 0, .int .i64 0, .string ⟨#[]⟩] 48)
  have e1 := he.keep hb0
  have c1 := e1.set 5 8 rfl
  have HT := Lib.hid (tz_32 _ e1)
  have H0 := Lib.hid hb0
  clear hb0 e1 he
  unfold qV pq
  go_enter Tryd.func37, Tryd.ntmps37
  go_wp2_with (go_at_call 60; refine HT.out.mono ?_; rintro e w1 ⟨rfl, rfl⟩)
  go_ret
  exact row_lit w _ _ [8] 1 (World.size_alloc _ _).symm rfl (by decide) H0.out
set_option maxRecDepth 100000 in
theorem parts_1_64 (w : World) (he : Env w) : Calls Tryd.prog 37 #[qV (pq 1 64)] w (RowPost w (prmV (pq 1 64))) := by
  have hb0 := below_box w (.cells #[.int .i64 39, .int .i64 1, .int .i64 64, .int .i64 0, .int .i64 0, .string ⟨#[]⟩] 48)
  have e1 := he.keep hb0
  have c1 := e1.set 6 9 rfl
  have HT := Lib.hid (tz_64 _ e1)
  have H0 := Lib.hid hb0
  clear hb0 e1 he
  unfold qV pq
  go_enter Tryd.func37, Tryd.ntmps37
  go_wp2_with (go_at_call 60; refine HT.out.mono ?_; rintro e w1 ⟨rfl, rfl⟩)
  go_ret
  exact row_lit w _ _ [9] 1 (World.size_alloc _ _).symm rfl (by decide) H0.out
set_option maxRecDepth 100000 in
theorem parts_1_128 (w : World) (he : Env w) : Calls Tryd.prog 37 #[qV (pq 1 128)] w (RowPost w (prmV (pq 1 128))) := by
  have hb0 := below_box w (.cells #[.int .i64 39, .int .i64 1, .int .i64 128, .int .i64 0, .int .i64 0, .string ⟨#[]⟩] 48)
  have e1 := he.keep hb0
  have c1 := e1.set 7 53 rfl
  have HT := Lib.hid (tz_128 _ e1)
  have H0 := Lib.hid hb0
  clear hb0 e1 he
  unfold qV pq
  go_enter Tryd.func37, Tryd.ntmps37
  go_wp2_with (go_at_call 60; refine HT.out.mono ?_; rintro e w1 ⟨rfl, rfl⟩)
  go_ret
  exact row_lit w _ _ [53] 1 (World.size_alloc _ _).symm rfl (by decide) H0.out
set_option maxRecDepth 100000 in
theorem parts_2_3 (w : World) (he : Env w) : Calls Tryd.prog 37 #[qV (pq 2 3)] w (RowPost w (prmV (pq 2 3))) := by
  have hb0 := below_box w (.cells #[.int .i64 39, .int .i64 2, .int .i64 3, .int .i64 0, .int .i64 0, .string ⟨#[]⟩] 48)
  have e1 := he.keep hb0
  have c1 := e1.clr 0 22 rfl
  have HT := Lib.hid (tz_3 _ e1)
  have H0 := Lib.hid hb0
  clear hb0 e1 he
  unfold qV pq
  go_enter Tryd.func37, Tryd.ntmps37
  go_wp2_with (go_at_call 60; refine HT.out.mono ?_; rintro e w1 ⟨rfl, rfl⟩)
  go_ret
  exact row_lit w _ _ [22] 1 (World.size_alloc _ _).symm rfl (by decide) H0.out
set_option maxRecDepth 100000 in
theorem parts_2_4 (w : World) (he : Env w) : Calls Tryd.prog 37 #[qV (pq 2 4)] w (RowPost w (prmV (pq 2 4))) := by
  have hb0 := below_box w (.cells #[.int .i64 39, .int .i64 2, .int .i64 4, .int .i64 0, .int .i64 0, .string ⟨#[]⟩] 48)
  have e1 := he.keep hb0
  have c1 := e1.clr 2 23 rfl
  have HT := Lib.hid (tz_4 _ e1)
  have H0 := Lib.hid hb0
  clear hb0 e1 he
  unfold qV pq
  go_enter Tryd.func37, Tryd.ntmps37
  go_wp2_with (go_at_call 60; refine HT.out.mono ?_; rintro e w1 ⟨rfl, rfl⟩)
  go_ret
  exact row_lit w _ _ [23] 1 (World.size_alloc _ _).symm rfl (by decide) H0.out
set_option maxRecDepth 100000 in
theorem parts_2_8 (w : World) (he : Env w) : Calls Tryd.prog 37 #[qV (pq 2 8)] w (RowPost w (prmV (pq 2 8))) := by
  have hb0 := below_box w (.cells #[.int .i64 39, .int .i64 2, .int .i64 8, .int .i64 0, .int .i64 0, .string ⟨#[]⟩] 48)
  have e1 := he.keep hb0
  have c1 := e1.clr 3 25 rfl
  have HT := Lib.hid (tz_8 _ e1)
  have H0 := Lib.hid hb0
  clear hb0 e1 he
  unfold qV pq
  go_enter Tryd.func37, Tryd.ntmps37
  go_wp2_with (go_at_call 60; refine HT.out.mono ?_; rintro e w1 ⟨rfl, rfl⟩)
  go_ret
  exact row_lit w _ _ [25] 1 (World.size_alloc _ _).symm rfl (by decide) H0.out
set_option maxRecDepth 100000 in
theorem parts_2_16 (w : World) (he : Env w) : Calls Tryd.prog 37 #[qV (pq 2 16)] w (RowPost w (prmV (pq 2 16))) := by
  have hb0 := below_box w (.cells #[.int .i64 39, .int .i64 2, .int .i64 16, .int .i64 0, .int .i64 0, .string ⟨#[]⟩] 48)
  have e1 := he.keep hb0
  have c1 := e1.clr 4 27 rfl
  have HT := Lib.hid (tz_16 _ e1)
  have H0 := Lib.hid hb0
  clear hb0 e1 he
  unfold qV pq
  go_enter Tryd.func37, Tryd.ntmps37
  go_wp2_with (go_at_call 60; refine HT.out.mono ?_; rintro e w1 ⟨rfl, rfl⟩)
  go_ret
  exact row_lit w _ _ [27] 1 (World.size_alloc _ _).symm rfl (by decide) H0.out
set_option maxRecDepth 100000 in
theorem parts_2_32 (w : World) (he : Env w) : Calls Tryd.prog 37 #[qV (pq 2 32)] w (RowPost w (prmV (pq 2 32))) := by
  have hb0 := below_box w (.cells #[.int .i64 39, .int .i64 2, .int .i64 32, .int .i64 0, .int .i64 0, .string ⟨#[]⟩] 48)
  have e1 := he.keep hb0
  have c1 := e1.clr 5 28 rfl
  have HT := Lib.hid (tz_32 _ e1)
  have H0 := Lib.hid hb0
  clear hb0 e1 he
  unfold qV pq
  go_enter Tryd.func37, Tryd.ntmps37
  go_wp2_with (go_at_call 60; refine HT.out.mono ?_; rintro e w1 ⟨rfl, rfl⟩)
  go_ret
  exact row_lit w _ _ [28] 1 (World.size_alloc _ _).symm rfl (by decide) H0.out
set_option maxRecDepth 100000 in
theorem parts_2_64 (w : World) (he : Env w) : Calls Tryd.prog 37 #[qV (pq 2 64)] w (RowPost w (prmV (pq 2 64))) := by
  have hb0 := below_box w (.cells #[.int .i64 39, .int .i64 2, .int .i64 64, .int .i64 0, .int .i64 0, .string ⟨#[]⟩] 48)
  have e1 := he.keep hb0
  have c1 := e1.clr 6 29 rfl
  have HT := Lib.hid (tz_64 _ e1)
  have H0 := Lib.hid hb0
  clear hb0 e1 he
  unfold qV pq
  go_enter Tryd.func37, Tryd.ntmps37
  go_wp2_with (go_at_call 60; refine HT.out.mono ?_; rintro e w1 ⟨rfl, rfl⟩)
  go_ret
  exact row_lit w _ _ [29] 1 (World.size_alloc _ _).symm rfl (by decide) H0.out
set_option maxRecDepth 100000 in
theorem parts_2_128 (w : World) (he : Env w) : Calls Tryd.prog 37 #[qV (pq 2 128)] w (RowPost w (prmV (pq 2 128))) := by
  have hb0 := below_box w (.cells #[.int .i64 39, .int .i64 2, .int .i64 128, .int .i64 0, .int .i64 0, .string ⟨#[]⟩] 48)
  have e1 := he.keep hb0
  have c1 := e1.clr 7 55 rfl
  have HT := Lib.hid (tz_128 _ e1)
  have H0 := Lib.hid hb0
  clear hb0 e1 he
  unfold qV pq
  go_enter Tryd.func37, Tryd.ntmps37
  go_wp2_with (go_at_call 60; refine HT.out.mono ?_; rintro e w1 ⟨rfl, rfl⟩)
  go_ret
  exact row_lit w _ _ [55] 1 (World.size_alloc _ _).symm rfl (by decide) H0.out
theorem cq_q (q : Q4) (h : q.m = 0) : q = cq q.n q.c0 q.c1 := by obtain ⟨n, m, a, b⟩ := q; simp only at h; subst h; rfl
/-- the parts of a valid pen's parameter -/
theorem parts_any (q : Q4) (w : World) (he : Env w) (h : okQ q = true) : Calls Tryd.prog 37 #[qV q] w (RowPost w (prmV q)) := by
  rcases fit_cases q h with rfl | ⟨m, hm, rfl⟩ | ⟨m, hm, rfl⟩ | ⟨m, h0, h5, rfl⟩ | ⟨n, hn, hq⟩
  · exact parts_0 w
  · rcases attr_cases m hm with rfl | rfl | rfl | rfl | rfl | rfl | rfl | rfl
    · exact parts_1_1 w he
    · exact parts_1_2 w he
    · exact parts_1_4 w he
    · exact parts_1_8 w he
    · exact parts_1_16 w he
    · exact parts_1_32 w he
    · exact parts_1_64 w he
    · exact parts_1_128 w he
  · rcases hm with rfl | ⟨hm, h1, h2⟩
    · exact parts_2_3 w he
    · rcases attr_cases m hm with rfl | rfl | rfl | rfl | rfl | rfl | rfl | rfl
      · exact absurd rfl h1
      · exact absurd rfl h2
      · exact parts_2_4 w he
      · exact parts_2_8 w he
      · exact parts_2_16 w he
      · exact parts_2_32 w he
      · exact parts_2_64 w he
      · exact parts_2_128 w he
  · exact parts_3 m w
  · rcases hq with rfl | ⟨c, h0, h1, rfl⟩ | ⟨c, h0, h1, rfl⟩
    · exact parts_c n 0 0 w hn (by decide)
    · exact parts_c n 1 c w hn (by simp [Col.okC, h0, h1])
    · exact parts_c n 2 c w hn (by simp [Col.okC, h0, h1])
end Go.Proofs.YteepfecplabinaaDoor.Sgr

namespace Go.Proofs.YteepfecplabinaaDoor.Sgr
open Go.RowKit Utf

/-- the parameters of actions, and the error -/
def prmP (ps : List Sty.P6) : List (List Int) := ps.map fun p => prmV (qP p)
def parsV (ps : List Sty.P6) : List (List Int) × Int := if ps.any badP then ([], 141) else if 16 < ps.length then ([], 3) else (prmP ps, 0)
theorem prmP_snoc (ps : List Sty.P6) (k : Nat) (p : Sty.P6) (h : ps[k]? = some p) : prmP (ps.take (k + 1)) = prmP (ps.take k) ++ [prmV (qP p)] := by
  unfold prmP
  rw [List.take_add_one, h]; simp
/-- what Params hands back -/
def ParsPost (w : World) (ps : List Sty.P6) (e : Ending) (w' : World) : Prop := ∃ v, e = .returned (.tuple #[v, .int .i64 (parsV ps).2]) ∧ Par.OwnL w' w.heap.size v (parsV ps).1 ∧ Below w.heap.size w w'
set_option maxRecDepth 100000 in
set_option maxHeartbeats 4000000 in
theorem params_any (A : Option Addr) (n c : Nat) (ps : List Sty.P6) (w : World) (he : Env w) (hn : n = ps.length) (hr : Sty.RdP w A ps) (hl : n ≤ 1000000) :
    Calls Tryd.prog 18 #[.slice A n c] w (ParsPost w ps) := by
  have HC := Lib.hid (containsA_any A n c ps w he.l hn hr hl)
  obtain ⟨t1, hi1, hy0, hy1, hy2⟩ := info_parts Par.infoP
  have HE := Lib.hid he; clear he
  have HR := Lib.hid hr; clear hr
  have Hn := Lib.hid hn; clear hn
  cases hb : ps.any badP with
  | true =>
    rw [hb] at HC
    have He := Lib.hid (show parsV ps = ([], 141) by unfold parsV; rw [hb]; rfl)
    clear hb
    go_enter Tryd.func18, Tryd.ntmps18
    go_wp2_with (go_at_call 35; refine HC.out.mono ?_; rintro e w1 ⟨rfl, hb1⟩)
    go_ret2
    unfold ParsPost
    rw [He.out]
    exact ⟨_, rfl, Par.OwnL.nil _ _, hb1⟩
  | false =>
    rw [hb] at HC
    by_cases h16 : 16 < n
    · have He := Lib.hid (show parsV ps = ([], 3) by unfold parsV; rw [hb, if_neg (by decide), if_pos (by rw [← Hn.out]; exact h16)])
      have d1 : decide ((16 : Int) < (n : Int)) = true := decide_eq_true (by omega)
      clear hb
      go_enter Tryd.func18, Tryd.ntmps18
      go_wp2_with (go_at_call 35; refine HC.out.mono ?_; rintro e w1 ⟨rfl, hb1⟩)
      go_ret2
      unfold ParsPost
      rw [He.out]
      exact ⟨_, rfl, Par.OwnL.nil _ _, hb1⟩
    · have He := Lib.hid (show parsV ps = (prmP ps, 0) by unfold parsV; rw [hb, if_neg (by decide), if_neg (by rw [← Hn.out]; exact h16)])
      have d1 : decide ((16 : Int) < (n : Int)) = false := decide_eq_false (by omega)
      have hgood : ∀ k p, ps[k]? = some p → p = pP (qP p) ∧ okQ (qP p) = true := fun k p hp => pP_of p (by
        have := List.any_eq_false.1 hb p (List.mem_of_getElem? hp)
        simpa [badP] using this)
      have HG := Lib.hid hgood; clear hgood hb
      go_enter Tryd.func18, Tryd.ntmps18
      go_wp2_with (go_at_call 35; refine HC.out.mono ?_; rintro e w1 ⟨rfl, hb1⟩)
      have HB1 := Lib.hid hb1; clear hb1
      go_loopw [14, 4] (fun iv ov wr => ∃ i : Nat, i ≤ n ∧ iv = .int .i64 i ∧ Hid (Par.OwnL wr w.heap.size ov (prmP (ps.take i)) ∧ Below w.heap.size w wr)) (fun iv _ _ => n - (intOf iv).toNat)
      case atStart => exact ⟨0, Nat.zero_le _, rfl, Par.OwnL.nil _ _, HB1.out⟩
      case round =>
        clear HB1
        obtain ⟨i, hi, rfl, hid⟩ := hrel
        by_cases hlt : i < n
        · obtain ⟨p, hp⟩ := Par.get_some ps i (by rw [← Hn.out]; exact hlt)
          obtain ⟨b, o, rfl, hbl, hrg⟩ := HR.out i p hp
          obtain ⟨hpq, hq⟩ := HG.out i p hp
          have e1 := fun W => Sty.ix_run b o n c i hlt W
          have hrg' : wr.rangeAt b (o + i * 6) (Sty.cP p) := fun j v hv => (hid.out.2.cell (p := ⟨b, o + i * 6 + j, none⟩) hbl).trans (hrg j v hv)
          rw [hpq] at hrg'
          obtain ⟨q, hqq⟩ : ∃ q, q = qP p := ⟨_, rfl⟩
          have Hs := Lib.hid (prmP_snoc ps i p hp)
          rw [← hqq] at hrg' hq Hs
          have y0 : wr.cell? ⟨b, o + i * 6, none⟩ = some (.int .i64 39) := hrg' 0 _ rfl
          have y1 : wr.cell? ⟨b, o + i * 6 + 1, none⟩ = some (.int .i64 q.n) := hrg' 1 _ rfl
          have y2 : wr.cell? ⟨b, o + i * 6 + 2, none⟩ = some (.int .i64 q.m) := hrg' 2 _ rfl
          have y3 : wr.cell? ⟨b, o + i * 6 + 3, none⟩ = some (.int .i64 q.c0) := hrg' 3 _ rfl
          have y4 : wr.cell? ⟨b, o + i * 6 + 4, none⟩ = some (.int .i64 q.c1) := hrg' 4 _ rfl
          have y5 : wr.cell? ⟨b, o + i * 6 + 5, none⟩ = some (.string ⟨#[]⟩) := hrg' 5 _ rfl
          clear hrg hrg' hpq hqq hp
          have hlt' : (i : Int) < (n : Int) := by omega
          have HQ := Lib.hid (fun W he => parts_any q W he hq)
          unfold qV at HQ
          obtain ⟨us, hu1, hu2, hu3⟩ := hid.out.1
          have hlo : (prmP (ps.take i)).length = i := by unfold prmP; rw [List.length_map, List.length_take, ← Hn.out]; omega
          rw [hlo] at hu1
          obtain ⟨AO, co, hsh, _, _⟩ := own_slice hu1
          subst hsh
          have U1 := Lib.hid (show (wr.ownsRow w.heap.size 41 1 (.slice AO i co) i us ∧ us.length = (prmP (ps.take i)).length ∧ ∀ (j : Nat) (x : Value) (p : List Int), us[j]? = some x → (prmP (ps.take i))[j]? = some p → wr.ownsRow w.heap.size 3 1 x p.length (cI p)) from ⟨hu1, hu2, hu3⟩)
          have hsz := hid.out.2.size
          clear hu1 hu2 hu3 hlo
          have HX := Lib.hid (Par.up hid.out.2 (below_box wr (.cells #[.int .i64 39, .int .i64 q.n, .int .i64 q.m, .int .i64 q.c0, .int .i64 q.c1, .string ⟨#[]⟩] 48)))
          have HU := Lib.hid (below_box wr (.cells #[.int .i64 39, .int .i64 q.n, .int .i64 q.m, .int .i64 q.c0, .int .i64 q.c1, .string ⟨#[]⟩] 48))
          clear hid
          have HK := Lib.hid (Sty.Box.new wr #[.int .i64 39, .int .i64 q.n, .int .i64 q.m, .int .i64 q.c0, .int .i64 q.c1, .string ⟨#[]⟩] 48)
          go_upto_region 9 with fail
          generalize wr.alloc (.cells #[.int .i64 39, .int .i64 q.n, .int .i64 q.m, .int .i64 q.c0, .int .i64 q.c1, .string ⟨#[]⟩] 48) = w2 at HX HU HK ⊢
          have x0 := HK.out.cell 0 _ rfl
          have x1 := HK.out.cell 1 _ rfl
          have x2 := HK.out.cell 2 _ rfl
          have x3 := HK.out.cell 3 _ rfl
          have x4 := HK.out.cell 4 _ rfl
          have x5 := HK.out.cell 5 _ rfl
          go_upto_region 10 with (first
            | (go_at_call 37; refine (HQ.out _ (HE.out.keep HX.out)).mono ?_; rintro e w3 ⟨v2, rfl, hv2, hb2⟩; obtain ⟨A2, c2, hsh2, _, _⟩ := own_slice hv2; subst hsh2; have HV2 := Lib.hid hv2; have HB2 := Lib.hid hb2; clear hv2 hb2)
            | (at_builtin; refine wpList_app _ rfl _ _ 22 rfl w.heap.size 41 t1 _ 24 Tryd.underlying22 hi1 hy0 hy1 hy2 rfl _ i us rfl (own_below (own_below (own_below U1.out.1 HU.out) HB2.out) (below_box _ _)) (some ⟨w3.heap.size, 0, none⟩) 1 1 [.slice A2 (prmV q).length c2] rfl rfl (Rd.one _ _ _) (by intro u hu; simp at hu; subst hu; rfl) (by omega) (by decide) (by rw [World.size_alloc]; have := HX.out.size; have := HB2.out.size; omega) ?_; intro v' w' hown hgrow hat; refine Hid.out ?_))
          refine Lib.hid ?_
          have hg : (w3.alloc (.cells #[.slice A2 (prmV q).length c2] 41)).grownBy w' (Value.slice AO i co).ownBlock := hgrow
          have hbw : Below w.heap.size w w3 := Par.up HX.out HB2.out
          have k3 : ∀ {e : TypeId} {v : Value} {m : Nat} {xs : List Value}, wr.ownsRow w.heap.size e 1 v m xs → (w3.alloc (.cells #[.slice A2 (prmV q).length c2] 41)).ownsRow w.heap.size e 1 v m xs := fun h => own_below (own_below (own_below h HU.out) HB2.out) (below_box _ _)
          have hol : Par.OwnL w' w.heap.size v' (prmP (ps.take i) ++ [prmV q]) :=
            Par.OwnL.snoc (k3 U1.out.1) U1.out.2.1 (fun j y r hy hr => k3 (U1.out.2.2 j y r hy hr)) (Par.own_mono (own_below HV2.out (below_box _ _)) HX.out.size) hown hg
          rw [← Hs.out] at hol
          have hbe : Below w.heap.size w w' := (Par.up hbw (below_box _ _)).grown hg (by rw [World.size_alloc]; have := hbw.size; omega) (fun r hr => (U1.out.1.lt r hr).1)
          obtain ⟨A', c', hsh', _, _⟩ := own_slice hown
          subst hsh'
          have G := Lib.hid (And.intro hol hbe)
          clear hol hbe hg hgrow hat hown hbw k3
          go_wp2
          go_roundw
          case rel => exact ⟨i + 1, by omega, by go_num, G.out⟩
          case measure => simp [intOf]; omega
        · have hid2 := hid.out
          rw [List.take_of_length_le (by rw [← Hn.out]; omega)] at hid2
          have HD := Lib.hid hid2
          clear hid2 hid
          go_wp2_with fail
          go_ret2
          unfold ParsPost
          rw [He.out]
          exact ⟨_, rfl, HD.out⟩
end Go.Proofs.YteepfecplabinaaDoor.Sgr

namespace Go.Proofs.YteepfecplabinaaDoor.Sgr
open Go.RowKit Utf Par

set_option maxRecDepth 100000 in
set_option maxHeartbeats 4000000 in
/-- the parts of a color -/
theorem denoted_color (g : Nat) (v : Value) (p : List Int) (w : World) (h : RL w v [p]) (h2 : 2 ≤ p.length) (h6 : p.length ≤ 6) (hno : ¬ (p.length = 2 ∧ p.getD 0 0 = 4)) : Calls Tryd.prog 53 #[v, .map (some g)] w (DenPost w (colO p)) := by
  obtain ⟨A, c, hv⟩ := h.form
  rw [show ([p] : List (List Int)).length = 1 from rfl] at hv
  subst hv
  have hb0 := below_box w (.cells #[.int .i64 0, .int .i64 0, .int .i64 0, .int .i64 0, .int .i64 0, .string ⟨#[]⟩] 48)
  have hX : Sty.Box (w.alloc (.cells #[.int .i64 0, .int .i64 0, .int .i64 0, .int .i64 0, .int .i64 0, .string ⟨#[]⟩] 48)) w.heap.size (Sty.cP zP) := Sty.Box.new _ _ _
  obtain ⟨ad, v0, rfl, hbl, hc0, hr0⟩ := item_i h (k := 0) (p := p) rfl
  rw [add_nil] at hc0
  have d0 := (hb0.cell (p := ad) hbl).trans hc0
  have HC := Lib.hid (colorOf_any v0 p _ (hr0.keep hb0) h2 h6)
  obtain ⟨O, hO⟩ : ∃ O, O = colO p := ⟨_, rfl⟩
  rw [← hO] at HC ⊢
  obtain ⟨k, n', m, c0, c1, t, hov⟩ := oV_form O
  unfold OptPost at HC
  rw [hov] at HC
  have HD := Lib.hid (den_of hov)
  obtain ⟨B, cb, hv0, -⟩ := id hr0
  obtain ⟨n, hn⟩ : ∃ n, n = p.length := ⟨_, rfl⟩
  rw [← hn] at h2 h6 hno hv0
  subst hv0
  obtain ⟨bd, rfl, hbb, hcb⟩ := cell_i hr0 0 (by omega)
  rw [add_nil] at hcb
  have e0 := (hb0.cell (p := bd) hbb).trans hcb
  generalize p.getD 0 0 = a at hno e0
  have HX := Lib.hid hX; clear hX
  have HB := Lib.hid hb0; clear hb0
  have i1 : (0 : Int) < (n : Int) := by omega
  have g1 : ((n : Int) == 1) = false := by simp; omega
  clear hO hov h hc0 hr0 hn hcb
  by_cases hn2 : n = 2
  · subst hn2
    have ga : (a == 4) = false := by simp; intro h; exact hno ⟨rfl, h⟩
    clear hno
    go_enter Tryd.func53, Tryd.ntmps53
    go_upto_region 1 with fail
    generalize w.alloc (.cells #[.int .i64 0, .int .i64 0, .int .i64 0, .int .i64 0, .int .i64 0, .string ⟨#[]⟩] 48) = w1 at HX HB HC d0 e0 ⊢
    go_wp2_with (go_at_call 95; refine HC.out.mono ?_; rintro e w5 ⟨rfl, hb5⟩; have HX := Lib.hid (HX.out.keep hb5); have HB := Lib.hid (Par.up HB.out hb5); have hsz := HB.out.size; have z0 := HX.out.cell 0 _ rfl; have f0 := HX.out.free 0 (by show 0 < 6; decide); have z1 := HX.out.cell 1 _ rfl; have f1 := HX.out.free 1 (by show 1 < 6; decide); have z2 := HX.out.cell 2 _ rfl; have f2 := HX.out.free 2 (by show 2 < 6; decide); have z3 := HX.out.cell 3 _ rfl; have f3 := HX.out.free 3 (by show 3 < 6; decide); have z4 := HX.out.cell 4 _ rfl; have f4 := HX.out.free 4 (by show 4 < 6; decide); have z5 := HX.out.cell 5 _ rfl; have f5 := HX.out.free 5 (by show 5 < 6; decide))
    refine bodyPost_ret (ret_cell2 rfl _ _ ⟨w.heap.size, 0, none⟩ _ rfl (put_c6 k n' m c0 c1 t HX.out)) rfl ?_
    exact ⟨k, n', m, c0, c1, t, rfl, HD.out, below_c6 _ k n' m c0 c1 t HB.out (Nat.le_refl _)⟩
  · have g2 : ((n : Int) == 2) = false := by simp; omega
    clear hno hn2
    go_enter Tryd.func53, Tryd.ntmps53
    go_upto_region 1 with fail
    generalize w.alloc (.cells #[.int .i64 0, .int .i64 0, .int .i64 0, .int .i64 0, .int .i64 0, .string ⟨#[]⟩] 48) = w1 at HX HB HC d0 e0 ⊢
    go_wp2_with (go_at_call 95; refine HC.out.mono ?_; rintro e w5 ⟨rfl, hb5⟩; have HX := Lib.hid (HX.out.keep hb5); have HB := Lib.hid (Par.up HB.out hb5); have hsz := HB.out.size; have z0 := HX.out.cell 0 _ rfl; have f0 := HX.out.free 0 (by show 0 < 6; decide); have z1 := HX.out.cell 1 _ rfl; have f1 := HX.out.free 1 (by show 1 < 6; decide); have z2 := HX.out.cell 2 _ rfl; have f2 := HX.out.free 2 (by show 2 < 6; decide); have z3 := HX.out.cell 3 _ rfl; have f3 := HX.out.free 3 (by show 3 < 6; decide); have z4 := HX.out.cell 4 _ rfl; have f4 := HX.out.free 4 (by show 4 < 6; decide); have z5 := HX.out.cell 5 _ rfl; have f5 := HX.out.free 5 (by show 5 < 6; decide))
    refine bodyPost_ret (ret_cell2 rfl _ _ ⟨w.heap.size, 0, none⟩ _ rfl (put_c6 k n' m c0 c1 t HX.out)) rfl ?_
    exact ⟨k, n', m, c0, c1, t, rfl, HD.out, below_c6 _ k n' m c0 c1 t HB.out (Nat.le_refl _)⟩
theorem box_far {w : World} {Y B : Nat} {cs : List Value} (k n m c0 c1 : Int) (t : ByteArray) (h : Sty.Box w Y cs) (hne : Y ≠ B) : Sty.Box ((((((w.setCell ⟨B, 0, none⟩ (.int .i64 k)).setCell ⟨B, 1, none⟩ (.int .i64 n)).setCell ⟨B, 2, none⟩ (.int .i64 m)).setCell ⟨B, 3, none⟩ (.int .i64 c0)).setCell ⟨B, 4, none⟩ (.int .i64 c1)).setCell ⟨B, 5, none⟩ (.string t)) Y cs := by
  have hn : some Y ≠ some B := fun e => hne (by injection e)
  exact (((((h.grown (Sty.grown_set _ _ _ _) hn).grown (Sty.grown_set _ _ _ _) hn).grown (Sty.grown_set _ _ _ _) hn).grown (Sty.grown_set _ _ _ _) hn).grown (Sty.grown_set _ _ _ _) hn).grown (Sty.grown_set _ _ _ _) hn
/-- whether an underline is one -/
def undO (m : Int) : Option Q4 := if 0 ≤ m ∧ m ≤ 5 then some (pq 3 m) else none
theorem bad_und (m : Int) : badP (pP (pq 3 m)) = !(undO m).isSome := by
  unfold badP
  rw [okP_pP]
  unfold undO okQ pq Sty.fitP Sty.none2
  by_cases h : 0 ≤ m ∧ m ≤ 5
  · rw [if_pos h]; simp [h]
  · rw [if_neg h]; simp; omega
set_option maxRecDepth 100000 in
set_option maxHeartbeats 4000000 in
theorem denoted_under (g : Nat) (v : Value) (m : Int) (w : World) (he : Env w) (h : RL w v [[4, m]]) : Calls Tryd.prog 53 #[v, .map (some g)] w (DenPost w (undO m)) := by
  obtain ⟨A, c, hv⟩ := h.form
  rw [show ([[4, m]] : List (List Int)).length = 1 from rfl] at hv
  subst hv
  have hb0 := below_box w (.cells #[.int .i64 0, .int .i64 0, .int .i64 0, .int .i64 0, .int .i64 0, .string ⟨#[]⟩] 48)
  have hX : Sty.Box (w.alloc (.cells #[.int .i64 0, .int .i64 0, .int .i64 0, .int .i64 0, .int .i64 0, .string ⟨#[]⟩] 48)) w.heap.size (Sty.cP zP) := Sty.Box.new _ _ _
  obtain ⟨ad, v0, rfl, hbl, hc0, hr0⟩ := item_i h (k := 0) (p := [4, m]) rfl
  rw [add_nil] at hc0
  have d0 := (hb0.cell (p := ad) hbl).trans hc0
  obtain ⟨B, cb, hv0, -⟩ := id hr0
  rw [show ([4, m] : List Int).length = 2 from rfl] at hv0
  subst hv0
  obtain ⟨bd, rfl, hbb, hcb⟩ := cell_i hr0 0 (by decide)
  obtain ⟨bd', hbe, hbb', hcb1⟩ := cell_i hr0 1 (by decide)
  cases hbe
  rw [add_nil] at hcb
  rw [add_pos bd 1 (by decide)] at hcb1
  have e0 : (w.alloc (.cells #[.int .i64 0, .int .i64 0, .int .i64 0, .int .i64 0, .int .i64 0, .string ⟨#[]⟩] 48)).cell? bd = some (.int .i64 4) := (hb0.cell (p := bd) hbb).trans hcb
  have e1 : (w.alloc (.cells #[.int .i64 0, .int .i64 0, .int .i64 0, .int .i64 0, .int .i64 0, .string ⟨#[]⟩] 48)).cell? ⟨bd.block, bd.off + 1, none⟩ = some (.int .i64 m) := (hb0.cell (p := ⟨bd.block, bd.off + 1, none⟩) hbb').trans hcb1
  have HW := Lib.hid (fun W h => isWrong_p (pP (pq 3 m)) W h)
  rw [bad_und] at HW
  obtain ⟨O, hO⟩ : ∃ O, O = undO m := ⟨_, rfl⟩
  have HD := Lib.hid (show ∀ q, O = some q → Value.agg #[.int .i64 39, .int .i64 3, .int .i64 m, .int .i64 0, .int .i64 0, .string ⟨#[]⟩] = qV q from fun q h => by
    rw [hO] at h; unfold undO at h; split at h
    · injection h with h; subst h; rfl
    · cases h)
  rw [← hO] at HW ⊢
  obtain ⟨b, hb⟩ : ∃ b, b = O.isSome := ⟨_, rfl⟩
  unfold DenPost
  rw [← hb] at HW ⊢
  have HX := Lib.hid hX; clear hX
  have HB := Lib.hid hb0; clear hb0
  have HE := Lib.hid he; clear he
  clear hO hb h hc0 hr0 hcb hcb1
  go_enter Tryd.func53, Tryd.ntmps53
  go_upto_region 1 with fail
  generalize w.alloc (.cells #[.int .i64 0, .int .i64 0, .int .i64 0, .int .i64 0, .int .i64 0, .string ⟨#[]⟩] 48) = w1 at HX HB d0 e0 e1 ⊢
  have HCH := Lib.hid (change_any 3 m w1)
  unfold qV pq at HCH
  go_upto_region 9 with (go_at_call 29; refine HCH.out.mono ?_; rintro e w5 ⟨rfl, hb5⟩; have HX := Lib.hid (HX.out.keep hb5); have HB := Lib.hid (Par.up HB.out hb5))
  have hlt : w.heap.size < w5.heap.size := HX.out.1
  have HX := Lib.hid (HX.out.alloc (.cells #[.int .i64 39, .int .i64 3, .int .i64 m, .int .i64 0, .int .i64 0, .string ⟨#[]⟩] 48))
  have HY : Sty.Box (w5.alloc (.cells #[.int .i64 39, .int .i64 3, .int .i64 m, .int .i64 0, .int .i64 0, .string ⟨#[]⟩] 48)) w5.heap.size [.int .i64 39, .int .i64 3, .int .i64 m, .int .i64 0, .int .i64 0, .string ⟨#[]⟩] := Sty.Box.new _ _ _
  have HB := Lib.hid (Par.up HB.out (below_box w5 (.cells #[.int .i64 39, .int .i64 3, .int .i64 m, .int .i64 0, .int .i64 0, .string ⟨#[]⟩] 48)))
  generalize w5.alloc (.cells #[.int .i64 39, .int .i64 3, .int .i64 m, .int .i64 0, .int .i64 0, .string ⟨#[]⟩] 48) = w6 at HX HB HY ⊢
  generalize w5.heap.size = Y at HY hlt ⊢
  have HX := Lib.hid HX.out.drew
  have HB := Lib.hid HB.out.drew
  have HY := Lib.hid HY.drew
  have HK := Lib.hid (show ∀ W, Sty.Box W Y [.int .i64 39, .int .i64 3, .int .i64 m, .int .i64 0, .int .i64 0, .string ⟨#[]⟩] → W.cell? ⟨Y, 0, none⟩ = some (.int .i64 39) ∧ W.cell? ⟨Y, 1, none⟩ = some (.int .i64 3) ∧ W.cell? ⟨Y, 2, none⟩ = some (.int .i64 m) ∧ W.cell? ⟨Y, 3, none⟩ = some (.int .i64 0) ∧ W.cell? ⟨Y, 4, none⟩ = some (.int .i64 0) ∧ W.cell? ⟨Y, 5, none⟩ = some (.string ⟨#[]⟩) from fun W h => ⟨h.cell 0 _ rfl, h.cell 1 _ rfl, h.cell 2 _ rfl, h.cell 3 _ rfl, h.cell 4 _ rfl, h.cell 5 _ rfl⟩)
  have G3 := HK.out _ HY.out
  clear hb5 d0 e0 e1 HCH
  cases b
  · go_region_held3 (fun W => W.cell? ⟨Y, 0, none⟩ = some (.int .i64 39) ∧ W.cell? ⟨Y, 1, none⟩ = some (.int .i64 3) ∧ W.cell? ⟨Y, 2, none⟩ = some (.int .i64 m) ∧ W.cell? ⟨Y, 3, none⟩ = some (.int .i64 0) ∧ W.cell? ⟨Y, 4, none⟩ = some (.int .i64 0) ∧ W.cell? ⟨Y, 5, none⟩ = some (.string ⟨#[]⟩))
      (first
        | (with_reducible exact GS)
        | (with_reducible exact G4)
        | (with_reducible exact G3))
      ((go_at_call 36; refine (HW.out _ (HE.out.keep HB.out).l).mono ?_; rintro e w7 ⟨rfl, hb7⟩; have HX := Lib.hid (HX.out.keep hb7); have HB := Lib.hid (Par.up HB.out hb7); have hsz := HB.out.size; have HY := Lib.hid (HY.out.keep hb7); have G4 := HK.out _ HY.out; have GS := HK.out _ (box_far 39 3 m 0 0 ⟨#[]⟩ HY.out (Nat.ne_of_gt hlt)); have z0 := HX.out.cell 0 _ rfl; have f0 := HX.out.free 0 (by show 0 < 6; decide); have z1 := HX.out.cell 1 _ rfl; have f1 := HX.out.free 1 (by show 1 < 6; decide); have z2 := HX.out.cell 2 _ rfl; have f2 := HX.out.free 2 (by show 2 < 6; decide); have z3 := HX.out.cell 3 _ rfl; have f3 := HX.out.free 3 (by show 3 < 6; decide); have z4 := HX.out.cell 4 _ rfl; have f4 := HX.out.free 4 (by show 4 < 6; decide); have z5 := HX.out.cell 5 _ rfl; have f5 := HX.out.free 5 (by show 5 < 6; decide)))
    clear GS G4 G3 HK hb7
    go_wp2_with fail
    refine bodyPost_ret (ret_cell2 rfl _ _ ⟨w.heap.size, 0, none⟩ _ rfl (put_c6 39 3 m 0 0 ⟨#[]⟩ HX.out)) rfl ?_
    exact ⟨39, 3, m, 0, 0, ⟨#[]⟩, rfl, HD.out, below_c6 _ 39 3 m 0 0 ⟨#[]⟩ HB.out (Nat.le_refl _)⟩
  · go_region_held3 (fun W => W.cell? ⟨Y, 0, none⟩ = some (.int .i64 39) ∧ W.cell? ⟨Y, 1, none⟩ = some (.int .i64 3) ∧ W.cell? ⟨Y, 2, none⟩ = some (.int .i64 m) ∧ W.cell? ⟨Y, 3, none⟩ = some (.int .i64 0) ∧ W.cell? ⟨Y, 4, none⟩ = some (.int .i64 0) ∧ W.cell? ⟨Y, 5, none⟩ = some (.string ⟨#[]⟩))
      (first
        | (with_reducible exact GS)
        | (with_reducible exact G4)
        | (with_reducible exact G3))
      ((go_at_call 36; refine (HW.out _ (HE.out.keep HB.out).l).mono ?_; rintro e w7 ⟨rfl, hb7⟩; have HX := Lib.hid (HX.out.keep hb7); have HB := Lib.hid (Par.up HB.out hb7); have hsz := HB.out.size; have HY := Lib.hid (HY.out.keep hb7); have G4 := HK.out _ HY.out; have GS := HK.out _ (box_far 39 3 m 0 0 ⟨#[]⟩ HY.out (Nat.ne_of_gt hlt)); have z0 := HX.out.cell 0 _ rfl; have f0 := HX.out.free 0 (by show 0 < 6; decide); have z1 := HX.out.cell 1 _ rfl; have f1 := HX.out.free 1 (by show 1 < 6; decide); have z2 := HX.out.cell 2 _ rfl; have f2 := HX.out.free 2 (by show 2 < 6; decide); have z3 := HX.out.cell 3 _ rfl; have f3 := HX.out.free 3 (by show 3 < 6; decide); have z4 := HX.out.cell 4 _ rfl; have f4 := HX.out.free 4 (by show 4 < 6; decide); have z5 := HX.out.cell 5 _ rfl; have f5 := HX.out.free 5 (by show 5 < 6; decide)))
    clear GS G4 G3 HK hb7
    go_wp2_with fail
    refine bodyPost_ret (ret_cell2 rfl _ _ ⟨w.heap.size, 0, none⟩ _ rfl (put_c6 39 3 m 0 0 ⟨#[]⟩ HX.out)) rfl ?_
    exact ⟨39, 3, m, 0, 0, ⟨#[]⟩, rfl, HD.out, below_c6 _ 39 3 m 0 0 ⟨#[]⟩ HB.out (Nat.le_refl _)⟩
theorem sgl_one (z : Int) : sglO [z] = simV (max 0 z) := rfl
theorem sgl_under (m : Int) : sglO [4, m] = undO m := by
  unfold sglO undO
  rw [if_neg (by simp), if_pos (by simp)]
  rfl
theorem sgl_color (p : List Int) (h2 : 2 ≤ p.length) (hno : ¬ (p.length = 2 ∧ p.getD 0 0 = 4)) : sglO p = colO p := by
  unfold sglO
  rw [if_neg (by omega), if_neg hno]
/-- the pen that parameters denote which belong together -/
theorem denoted_any (g : Nat) (v : Value) (l : List (List Int)) (w : World) (he : Env w) (h : RL w v l) (hm : w.heap[g]? = some (mapQ tabQ)) (h1 : 1 ≤ l.length) (h6 : l.length ≤ 6) (hp : ∀ p ∈ l, 1 ≤ p.length ∧ p.length ≤ 6) :
    Calls Tryd.prog 53 #[v, .map (some g)] w (DenPost w (denO l)) := by
  by_cases hl : 2 ≤ l.length
  · have : denO l = jonO l := by unfold denO; rw [if_pos (by omega)]
    rw [this]
    exact denoted_many g v l w h hl h6
  · match l, h1, hl with
    | [p], _, _ =>
      have e : denO [p] = sglO p := rfl
      rw [e]
      obtain ⟨q1, q6⟩ := hp p (by simp)
      by_cases hp2 : 2 ≤ p.length
      · by_cases hno : p.length = 2 ∧ p.getD 0 0 = 4
        · obtain ⟨a, m, rfl⟩ : ∃ a m, p = [a, m] := by
            clear h hp q1 q6 hp2 e
            match p, hno.1 with
            | [a, m], _ => exact ⟨a, m, rfl⟩
          obtain rfl : a = 4 := hno.2
          rw [sgl_under]
          exact denoted_under g v m w he h
        · rw [sgl_color p hp2 hno]
          exact denoted_color g v p w h hp2 q6 hno
      · obtain ⟨z, rfl⟩ : ∃ z, p = [z] := by
          have hl1 : p.length = 1 := by omega
          clear h hp q1 q6 hp2 e
          match p, hl1 with
          | [z], _ => exact ⟨z, rfl⟩
        exact denoted_one g v z w h hm
    | _ :: _ :: _, _, hl => exact absurd (by simp) hl
end Go.Proofs.YteepfecplabinaaDoor.Sgr

namespace Go.Proofs.YteepfecplabinaaDoor.Sgr
open Par

theorem colR_3 (a b c : Int) : colR a b [c] = if 0 ≤ whV a ∧ b = 5 ∧ inB c = true then some (cq (whV a) 1 c) else none := by
  by_cases hw : whV a < 0
  · rw [colR_no hw, if_neg (by omega)]
  · by_cases hc : inB c = true
    · have hy : [c].any noB = false := by simp [noB_is, hc]
      by_cases hb : b = 5
      · subst hb; rw [colR_5 (by omega) hy, if_pos ⟨by omega, rfl, hc⟩]
      · rw [colR_none (by rintro ⟨h, -⟩; exact hb h) (by rintro ⟨-, h⟩; exact absurd h (by simp)), if_neg (by rintro ⟨-, h, -⟩; exact hb h)]
    · have hy : [c].any noB = true := by simp [noB_is, hc]
      rw [colR_any hy, if_neg (by rintro ⟨-, -, h⟩; exact hc h)]
theorem colR_4 (a b r g l : Int) : colR a b [r, g, l] = if 0 ≤ whV a ∧ b = 2 ∧ inB r = true ∧ inB g = true ∧ inB l = true then some (rgbQ (whV a) r g l) else none := by
  by_cases hw : whV a < 0
  · rw [colR_no hw, if_neg (by omega)]
  · by_cases hc : inB r = true ∧ inB g = true ∧ inB l = true
    · have hy : [r, g, l].any noB = false := by simp [noB_is, hc]
      by_cases hb : b = 2
      · subst hb; rw [colR_2 (by omega) hy, if_pos ⟨by omega, rfl, hc⟩]
      · rw [colR_none (by rintro ⟨-, h⟩; exact absurd h (by simp)) (by rintro ⟨h, -⟩; exact hb h), if_neg (by rintro ⟨-, h, -⟩; exact hb h)]
    · have hy : [r, g, l].any noB = true := by
        simp only [List.any_cons, List.any_nil, noB_is, Bool.or_eq_true, Bool.not_eq_true', Bool.or_false]
        by_cases h1 : inB r = true
        · by_cases h2 : inB g = true
          · right; right
            by_cases h3 : inB l = true
            · exact absurd ⟨h1, h2, h3⟩ hc
            · simpa using h3
          · right; left; simpa using h2
        · left; simpa using h1
      rw [colR_any hy, if_neg (by rintro ⟨-, -, h⟩; exact hc h)]
theorem colR_other (a b : Int) (r : List Int) (h1 : r.length ≠ 1) (h3 : r.length ≠ 3) : colR a b r = none := colR_none (by rintro ⟨-, h⟩; exact h1 h) (by rintro ⟨-, h⟩; exact h3 h)
theorem sgl_alo (p : List Int) (h1 : 1 ≤ p.length) (h6 : p.length ≤ 6) : sglO p = aloV p := by
  match p, h1, h6 with
  | [z], _, _ => rfl
  | [a, m], _, _ =>
    by_cases ha : a = 4
    · subst ha
      rw [sgl_under]
      unfold undO
      show _ = if (4 : Int) = 4 ∧ 0 ≤ m ∧ m ≤ 5 then some (pq 3 m) else none
      by_cases h : 0 ≤ m ∧ m ≤ 5
      · rw [if_pos h, if_pos ⟨rfl, h⟩]
      · rw [if_neg h, if_neg (by rintro ⟨-, h'⟩; exact h h')]
    · rw [sgl_color _ (by simp) (by rintro ⟨-, h⟩; exact ha h)]
      show colR a m [] = if a = 4 ∧ 0 ≤ m ∧ m ≤ 5 then some (pq 3 m) else none
      rw [colR_other a m [] (by decide) (by decide), if_neg (by rintro ⟨h, -⟩; exact ha h)]
  | [a, b, c], _, _ =>
    rw [sgl_color _ (by simp) (by simp)]
    exact colR_3 a b c
  | [a, b, c, d], _, _ =>
    rw [sgl_color _ (by simp) (by simp)]
    exact colR_other a b [c, d] (by simp) (by simp)
  | [a, b, r, g, l], _, _ =>
    rw [sgl_color _ (by simp) (by simp)]
    exact colR_4 a b r g l
  | [a, b, x, r, g, l], _, _ =>
    rw [sgl_color _ (by simp) (by simp)]
    exact colR_4 a b r g l
theorem many_no {p : List Int} (h : manyB p = false) : ∃ z, p = [z] := by
  unfold manyB at h
  have hl : p.length = 1 := by simpa using h
  match p, hl with
  | [z], _ => exact ⟨z, rfl⟩
theorem many_yes {p : List Int} (h : manyB p = true) : p.length ≠ 1 := by
  unfold manyB at h
  simpa using h
theorem val_at (l : List (List Int)) (k : Nat) (z : Int) (r : List Int) (h : l[k]? = some (z :: r)) : valV l (k : Int) 0 = max 0 z := by
  have hk := (List.getElem?_eq_some_iff.1 h).1
  unfold valV
  rw [if_neg (by omega), Int.toNat_natCast, h]
  show (if z < 0 then 0 else z) = max 0 z
  split <;> omega
theorem val_take (l : List (List Int)) (m i : Nat) (hi : i < m) : valV (l.take m) (i : Int) 0 = valV l (i : Int) 0 := by
  unfold valV
  by_cases h : i < l.length
  · rw [if_neg (by rw [List.length_take]; omega), if_neg (by omega), Int.toNat_natCast, List.getElem?_take_of_lt hi]
  · rw [if_pos (by rw [List.length_take]; omega), if_pos (by omega)]
theorem jon_any {l : List (List Int)} (h : l.any manyB = true) : jonO l = none := by unfold jonO; rw [if_pos h]
theorem jon_col {l : List (List Int)} (h : l.any manyB = false) : jonO l = colO (numO l l.length) := by unfold jonO; rw [h]; rfl
theorem jon2 (a b : Int) : jonO [[a], [b]] = colR (max 0 a) (max 0 b) [] := by
  rw [jon_col rfl]
  have h0 := val_at [[a], [b]] 0 a [] rfl
  have h1 := val_at [[a], [b]] 1 b [] rfl
  show colO [valV [[a], [b]] ((0 : Nat) : Int) 0, valV [[a], [b]] ((1 : Nat) : Int) 0] = _
  rw [h0, h1]; rfl
theorem jon3 (a b c : Int) : jonO [[a], [b], [c]] = colR (max 0 a) (max 0 b) [max 0 c] := by
  rw [jon_col rfl]
  have h0 := val_at [[a], [b], [c]] 0 a [] rfl
  have h1 := val_at [[a], [b], [c]] 1 b [] rfl
  have h2 := val_at [[a], [b], [c]] 2 c [] rfl
  show colO [valV [[a], [b], [c]] ((0 : Nat) : Int) 0, valV [[a], [b], [c]] ((1 : Nat) : Int) 0, valV [[a], [b], [c]] ((2 : Nat) : Int) 0] = _
  rw [h0, h1, h2]; rfl
theorem jon4 (a b c d : Int) : jonO [[a], [b], [c], [d]] = none := by
  rw [jon_col rfl]
  exact colR_other _ _ [_, _] (by simp) (by simp)
theorem jon5 (a b c d e : Int) : jonO [[a], [b], [c], [d], [e]] = colR (max 0 a) (max 0 b) [max 0 c, max 0 d, max 0 e] := by
  rw [jon_col rfl]
  have h0 := val_at [[a], [b], [c], [d], [e]] 0 a [] rfl
  have h1 := val_at [[a], [b], [c], [d], [e]] 1 b [] rfl
  have h2 := val_at [[a], [b], [c], [d], [e]] 2 c [] rfl
  have h3 := val_at [[a], [b], [c], [d], [e]] 3 d [] rfl
  have h4 := val_at [[a], [b], [c], [d], [e]] 4 e [] rfl
  show colO [valV [[a], [b], [c], [d], [e]] ((0 : Nat) : Int) 0, valV [[a], [b], [c], [d], [e]] ((1 : Nat) : Int) 0, valV [[a], [b], [c], [d], [e]] ((2 : Nat) : Int) 0, valV [[a], [b], [c], [d], [e]] ((3 : Nat) : Int) 0, valV [[a], [b], [c], [d], [e]] ((4 : Nat) : Int) 0] = _
  rw [h0, h1, h2, h3, h4]; rfl
/-- how many parameters go -/
def cntN (l : List (List Int)) : Nat := min (tknN l) l.length
theorem vals_one (z : Int) (l : List (List Int)) : valsV ([z] :: l) = max 0 z :: valsV l := rfl
theorem wh_5 (a : Int) (l : List (List Int)) (h : whV (max 0 a) < 0) : frV ([a] :: l) = (aloV [a], 1) := frV_one a l h
theorem tkn_two (p0 p1 : List Int) (r : List (List Int)) : tknN (p0 :: p1 :: r) = if manyB p0 then 1 else if manyB p1 then 1 else if whV (valV (p0 :: p1 :: r) 0 0) < 0 then 1 else if valV (p0 :: p1 :: r) 1 0 = 5 then 3 else if valV (p0 :: p1 :: r) 1 0 = 2 then 5 else 1 := rfl
theorem fr_den (l : List (List Int)) (h : l ≠ []) (hp : ∀ p ∈ l, 1 ≤ p.length ∧ p.length ≤ 6) : frV l = (denO (l.take (cntN l)), cntN l) := by
  have one : ∀ p (r : List (List Int)), l = p :: r → cntN l = 1 → denO (l.take (cntN l)) = aloV p := fun p r hl hc => by
    rw [hc, hl]
    show sglO p = aloV p
    have := hp p (by rw [hl]; simp)
    exact sgl_alo p this.1 this.2
  match l, h with
  | [p], _ =>
    have hc : cntN [p] = 1 := rfl
    rw [one p [] rfl hc, hc]
    by_cases hm : p.length = 1
    · have hm' : manyB p = false := by simp [manyB, hm]
      obtain ⟨z, rfl⟩ := many_no hm'
      unfold frV
      rw [vals_one]
      rfl
    · exact frV_more p [] hm
  | p0 :: p1 :: r, _ =>
    have ht := tkn_two p0 p1 r
    cases hm0 : manyB p0 with
    | true =>
      have hc : cntN (p0 :: p1 :: r) = 1 := by unfold cntN; rw [ht, hm0]; simp
      rw [one p0 (p1 :: r) rfl hc, hc]
      exact frV_more p0 _ (many_yes hm0)
    | false =>
      obtain ⟨a, rfl⟩ := many_no hm0
      cases hm1 : manyB p1 with
      | true =>
        have hc : cntN ([a] :: p1 :: r) = 1 := by unfold cntN; rw [ht, hm0, hm1]; simp
        rw [one [a] (p1 :: r) rfl hc, hc]
        unfold frV
        rw [vals_one, valsV_more p1 r (many_yes hm1)]
        rfl
      | false =>
        obtain ⟨b, rfl⟩ := many_no hm1
        have h0 : valV ([a] :: [b] :: r) 0 0 = max 0 a := val_at _ 0 a [] rfl
        have h1 : valV ([a] :: [b] :: r) 1 0 = max 0 b := val_at _ 1 b [] rfl
        rw [h0, h1, hm0, hm1] at ht
        simp only [Bool.false_eq_true, if_false] at ht
        by_cases hw : whV (max 0 a) < 0
        · rw [if_pos hw] at ht
          have hc : cntN ([a] :: [b] :: r) = 1 := by unfold cntN; rw [ht]; simp
          rw [one [a] ([b] :: r) rfl hc, hc]
          exact frV_one a _ hw
        · rw [if_neg hw] at ht
          have hw0 : 0 ≤ whV (max 0 a) := by omega
          by_cases hb5 : max 0 b = 5
          · rw [if_pos hb5] at ht
            have hf : frV ([a] :: [b] :: r) = match valsV r with | i :: _ => if inB i then (some (cq (whV (max 0 a)) 1 i), 3) else (none, min 3 (r.length + 2)) | [] => (none, min 3 (r.length + 2)) := by
              unfold frV
              rw [vals_one, vals_one, hb5]
              show (if 0 ≤ whV (max 0 a) then (match valsV r with | i :: _ => if inB i then (some (cq (whV (max 0 a)) 1 i), 3) else (none, min 3 (r.length + 2)) | [] => (none, min 3 (r.length + 2))) else _) = _
              rw [if_pos hw0]
            rw [hf]
            have hc : cntN ([a] :: [b] :: r) = min 3 (r.length + 2) := by unfold cntN; rw [ht]; rfl
            match r with
            | [] =>
              rw [hc]
              show (none, 2) = (jonO [[a], [b]], 2)
              rw [jon2, colR_other _ _ [] (by decide) (by decide)]
            | p2 :: r' =>
              have hc3 : cntN ([a] :: [b] :: p2 :: r') = 3 := by rw [hc]; simp only [List.length_cons]; omega
              have hm3 : min 3 ((p2 :: r').length + 2) = 3 := by simp only [List.length_cons]; omega
              rw [hc3, hm3]
              show _ = (jonO [[a], [b], p2], 3)
              cases hm2 : manyB p2 with
              | true =>
                rw [valsV_more p2 r' (many_yes hm2), jon_any (by simp [hm2])]
              | false =>
                obtain ⟨c, rfl⟩ := many_no hm2
                rw [vals_one, jon3, hb5, colR_3]
                dsimp only
                by_cases hi : inB (max 0 c) = true
                · rw [if_pos hi, if_pos ⟨hw0, rfl, hi⟩]
                · rw [if_neg hi, if_neg (by rintro ⟨-, -, h⟩; exact hi h)]
          · rw [if_neg hb5] at ht
            by_cases hb2 : max 0 b = 2
            · rw [if_pos hb2] at ht
              have hf : frV ([a] :: [b] :: r) = match valsV r with | x :: y :: z :: _ => if inB x ∧ inB y ∧ inB z then (some (rgbQ (whV (max 0 a)) x y z), 5) else (none, min 5 (r.length + 2)) | _ => (none, min 5 (r.length + 2)) := by
                unfold frV
                rw [vals_one, vals_one, hb2]
                show (if 0 ≤ whV (max 0 a) then (match valsV r with | x :: y :: z :: _ => if inB x ∧ inB y ∧ inB z then (some (rgbQ (whV (max 0 a)) x y z), 5) else (none, min 5 (r.length + 2)) | _ => (none, min 5 (r.length + 2))) else _) = _
                rw [if_pos hw0]
              rw [hf]
              have hc : cntN ([a] :: [b] :: r) = min 5 (r.length + 2) := by unfold cntN; rw [ht]; rfl
              match r with
              | [] =>
                rw [hc]
                show (none, 2) = (jonO [[a], [b]], 2)
                rw [jon2, colR_other _ _ [] (by decide) (by decide)]
              | [p2] =>
                rw [hc]
                show _ = (jonO [[a], [b], p2], 3)
                cases hm2 : manyB p2 with
                | true => rw [valsV_more p2 [] (many_yes hm2), jon_any (by simp [hm2])]; rfl
                | false =>
                  obtain ⟨c, rfl⟩ := many_no hm2
                  rw [jon3, hb2, colR_3, if_neg (by rintro ⟨-, h, -⟩; exact absurd h (by decide))]; rfl
              | [p2, p3] =>
                rw [hc]
                show _ = (jonO [[a], [b], p2, p3], 4)
                cases hm2 : manyB p2 with
                | true => rw [valsV_more p2 _ (many_yes hm2), jon_any (by simp [hm2])]; rfl
                | false =>
                  obtain ⟨c, rfl⟩ := many_no hm2
                  cases hm3 : manyB p3 with
                  | true => rw [vals_one, valsV_more p3 _ (many_yes hm3), jon_any (by simp [hm3])]; rfl
                  | false =>
                    obtain ⟨d, rfl⟩ := many_no hm3
                    rw [jon4]; rfl
              | p2 :: p3 :: p4 :: r' =>
                have hc5 : cntN ([a] :: [b] :: p2 :: p3 :: p4 :: r') = 5 := by rw [hc]; simp only [List.length_cons]; omega
                have hm5 : min 5 ((p2 :: p3 :: p4 :: r').length + 2) = 5 := by simp only [List.length_cons]; omega
                rw [hc5, hm5]
                show _ = (jonO [[a], [b], p2, p3, p4], 5)
                cases hm2 : manyB p2 with
                | true => rw [valsV_more p2 _ (many_yes hm2), jon_any (by simp [hm2])]
                | false =>
                  obtain ⟨c, rfl⟩ := many_no hm2
                  cases hm3 : manyB p3 with
                  | true => rw [vals_one, valsV_more p3 _ (many_yes hm3), jon_any (by simp [hm3])]
                  | false =>
                    obtain ⟨d, rfl⟩ := many_no hm3
                    cases hm4 : manyB p4 with
                    | true => rw [vals_one, vals_one, valsV_more p4 _ (many_yes hm4), jon_any (by simp [hm4])]
                    | false =>
                      obtain ⟨e, rfl⟩ := many_no hm4
                      rw [vals_one, vals_one, vals_one, jon5, hb2, colR_4]
                      dsimp only
                      by_cases hi : inB (max 0 c) = true ∧ inB (max 0 d) = true ∧ inB (max 0 e) = true
                      · rw [if_pos hi, if_pos ⟨hw0, rfl, hi⟩]
                      · rw [if_neg hi, if_neg (by rintro ⟨-, -, h⟩; exact hi h)]
            · rw [if_neg hb2] at ht
              have hc : cntN ([a] :: [b] :: r) = 1 := by unfold cntN; rw [ht]; simp
              rw [one [a] ([b] :: r) rfl hc, hc]
              unfold frV
              rw [vals_one, vals_one]
              split
              · rename_i h; injection h with _ h; injection h with h _; exact absurd h hb5
              · rename_i h; injection h with _ h; injection h with h _; exact absurd h hb2
              · rfl
end Go.Proofs.YteepfecplabinaaDoor.Sgr
