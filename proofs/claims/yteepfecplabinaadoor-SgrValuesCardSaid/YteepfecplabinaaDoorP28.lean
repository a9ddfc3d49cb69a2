/-
  SgrO SgrP
-/
import Derived.Test.YteepfecplabinaaDoorP2
import Derived.Test.YteepfecplabinaaDoorP12
import Derived.Test.YteepfecplabinaaDoorP20
import Derived.Test.YteepfecplabinaaDoorP27
namespace Go.Proofs.YteepfecplabinaaDoor.Sgr
open Go.RowKit Go.Shelf Utf Par

attribute [local go_sem] Oper.semAt_some

def encQ (q : Q4) : Array Value := #[qV q]
set_option maxHeartbeats 1000000 in
theorem pens_in (n : Nat) (A : Option Addr) (m c : Nat) (w : World) :
    CallsIn Fence.wide n Tryd.prog 30 #[.slice A m c] w fun e w' => e = .returned (.func (.func 50) #[] #[.pointer (some ⟨w.heap.size, 0, none⟩)]) ∧ w' = w.alloc (.cells #[.slice A m c] 22) := by
  refine callsIn_of_wp Tryd.func30 rfl trivial ?_ rfl
  simp only [Tryd.ntmps30, List.size_toArray, List.length_cons, List.length_nil, Nat.reduceAdd, Nat.reduceSub, Array.replicate_succ, Array.replicate_zero, List.push_toArray, List.append_toArray, List.nil_append, List.cons_append]
  gi_wp2
  go_ret
  exact ⟨rfl, rfl⟩
theorem cnt_in (l : List (List Int)) (h : l ≠ []) : 1 ≤ cntN l ∧ cntN l ≤ l.length ∧ cntN l ≤ 5 := by
  unfold cntN
  match l, h with
  | [p], _ => simp [tknN]
  | p0 :: p1 :: r, _ =>
    rw [tkn_two]
    have : 2 ≤ (p0 :: p1 :: r).length := by simp
    repeat' split
    all_goals omega
theorem tkn_le (l : List (List Int)) : tknN l ≤ 5 := by
  match l with
  | [] => simp [tknN]
  | [p] => simp [tknN]
  | p0 :: p1 :: r =>
    rw [tkn_two]
    repeat' split
    all_goals omega
/-- memory as the iterator wants it: what lay before the call, and its map, stay -/
def KpM (B : Nat) (W W' : World) : Prop := Below B W W' ∧ ∀ (k : Nat) es c, W.heap[k]? = some (.map es c) → W'.heap[k]? = some (.map es c)
set_option maxRecDepth 100000 in
set_option maxHeartbeats 2000000 in
theorem iter_in (n l q : Nat) (v : Value) (ls : List (List Int)) (w : World) (he : Env w) (h : RL w v ls) (hl : ls.length ≤ 16) (hp : ∀ p ∈ ls, 1 ≤ p.length ∧ p.length ≤ 6) (J : List Q4 → World → Prop) (hJ : ∀ pre A B, J pre A → Below A.heap.size A B → J pre B)
    (hY : ∀ pre x W1, J pre W1 → pre.length ≤ 16 → YieldAt Fence.wide (n - 1) Tryd.prog l (encQ x) W1 fun e W' => e = .returned (.bool true) ∧ J (pre ++ [x]) W' ∧ KpM w.heap.size W1 W')
    (W : World) (hW : Below w.heap.size w W) (hB : Boxed W q 22 v) (h0 : J [] W) :
    CallsIn Fence.wide n Tryd.prog 50 #[.func (.yield l) #[] #[], .pointer (some ⟨q, 0, none⟩)] W fun e W' => (∃ v, e = .returned v) ∧ J (pensR ls) W' := by
  obtain ⟨A, c, rfl⟩ := h.form
  obtain ⟨k0, hk0⟩ : ∃ k0, k0 = ls.length := ⟨_, rfl⟩
  rw [← hk0] at h hB hl
  have HL := Lib.hid h; clear h
  have Hk := Lib.hid hk0; clear hk0
  have HP := Lib.hid hp; clear hp
  have HJ := Lib.hid hJ; clear hJ
  have HY := Lib.hid hY; clear hY
  have HW := Lib.hid hW; clear hW
  have H0 := Lib.hid h0; clear h0
  have HE := Lib.hid he; clear he
  have HB := Lib.hid hB; clear hB
  refine callsIn_of_wp Tryd.func50 rfl trivial ?_ rfl
  simp only [Tryd.ntmps50, List.size_toArray, List.length_cons, List.length_nil, Nat.reduceAdd, Nat.reduceSub, Array.replicate_succ, Array.replicate_zero, List.push_toArray, List.append_toArray, List.nil_append, List.cons_append]
  gi_wp2_with fail
  refine ⟨trivial, fun h => (by cases h), (callsIn_wide.2 (values_any W (HE.out.keep HW.out))).mono ?_⟩
  rintro e w1 ⟨rfl, hm, hb1⟩
  have hbx := (show Boxed w1 q 22 _ from (hb1.block _ HB.out.lt).trans HB.out)
  have hc := hbx.cell
  have HJ1 := Lib.hid (HJ.out _ _ _ H0.out hb1)
  have HM := Lib.hid hm
  have HB1 := Lib.hid (up HW.out hb1)
  have hgl := hb1.size
  clear hm hbx HB H0
  obtain ⟨g, hg⟩ : ∃ g, g = W.heap.size := ⟨_, rfl⟩
  rw [← hg] at HM hgl ⊢
  clear hg hb1
  gi_wp2_with fail
  gi_loopw [4] (fun v wr => ∃ (A' : Option Addr) (m c' : Nat), v = .slice A' m c' ∧ m ≤ k0 ∧ Hid (∃ r, m = r.length ∧ RL w v r ∧ (∀ p ∈ r, 1 ≤ p.length ∧ p.length ≤ 6) ∧ ∃ pre, pre ++ pensR r = pensR ls ∧ pre.length + m ≤ 16 ∧ J pre wr ∧ Below w.heap.size w wr ∧ wr.heap[g]? = some (mapQ tabQ))) (fun v _ => (match v with | .slice _ m _ => m | _ => 0))
  case atStart => exact ⟨A, k0, c, rfl, Nat.le_refl _, ls, Hk.out, HL.out, HP.out, [], rfl, by simp; omega, HJ1.out, HB1.out, HM.out⟩
  case round =>
    clear HJ1 HB1 HM hc
    obtain ⟨A', m, c', rfl, hm, hid⟩ := hrel
    obtain ⟨r, hmr, hRL, hpr, pre, hpen, hlen, hJ, hbw, hmap⟩ := hid.out
    clear hid
    by_cases hm0 : m = 0
    · obtain rfl : r = [] := List.eq_nil_of_length_eq_zero (by omega)
      have HF := Lib.hid (show J (pensR ls) wr by rw [← hpen, show pensR [] = [] from rfl, List.append_nil]; exact hJ)
      subst hm0
      clear hJ hpen hRL hpr hmr hlen
      gi_wp2
      go_end0
      exact ⟨⟨_, rfl⟩, HF.out⟩
    · have hne : r ≠ [] := by intro h; rw [h] at hmr; exact hm0 hmr
      obtain ⟨hc1, hc2, hc5⟩ := cnt_in r hne
      rw [← hmr] at hc2
      have HT := Lib.hid (fun W h => taken_any (.slice A' m c') r W h hne)
      have hcn : cntN r = min (tknN r) m := by unfold cntN; rw [← hmr]
      have HRL := Lib.hid hRL
      have HPR := Lib.hid hpr
      have HPen := Lib.hid hpen
      have HFr := Lib.hid (fr_den r hne hpr)
      have Hst := Lib.hid (pensR_step r hne)
      have HJp := Lib.hid hJ
      have HBw := Lib.hid hbw
      have HMp := Lib.hid hmap
      have Hmr := Lib.hid hmr
      have hm1 : (0 : Int) < (m : Int) := by omega
      have htk := tkn_le r
      generalize cntN r = k at hc1 hc2 hc5 hcn HFr
      generalize tknN r = tk at HT hcn htk
      clear hRL hpr hpen hJ hbw hmap hmr hne
      gi_wp2_with fail
      refine ⟨trivial, fun h => (by cases h), (callsIn_wide.2 (HT.out _ (HRL.out.keep HBw.out))).mono ?_⟩
      rintro e w2 ⟨rfl, hb2⟩
      have HB2 := Lib.hid (up HBw.out hb2)
      have HJ2 := Lib.hid (HJ.out _ _ _ HJp.out hb2)
      have HM2 := Lib.hid ((hb2.block g (Array.getElem?_eq_some_iff.1 HMp.out).1).trans HMp.out)
      clear hb2 HBw HJp HMp
      obtain ⟨s1, s2, hRt⟩ := RL.upto HRL.out k hc2
      obtain ⟨A2, s3, s4, hRd⟩ := RL.from HRL.out k hc2
      have hlt : (r.take k).length = k := by rw [List.length_take, ← Hmr.out]; omega
      have HD := Lib.hid (fun W he h hm => denoted_any g (.slice A' k c') (r.take k) W he h hm (by rw [hlt]; exact hc1) (by rw [hlt]; omega) (fun p hp => HPR.out p (List.mem_of_mem_take hp)))
      have HRt := Lib.hid hRt
      have HRd := Lib.hid hRd
      have HS := Lib.hid (show pensR r = (denO (r.take k)).toList ++ pensR (r.drop k) by rw [Hst.out, HFr.out])
      have hmin : min (tk : Int) (m : Int) = (k : Int) := by omega
      have hminN : min tk m = k := hcn.symm
      clear hcn
      generalize denO (r.take k) = O at HD HS
      clear hRt hRd hlt HFr Hst
      gi_wp2_with fail
      refine ⟨trivial, fun h => (by cases h), (callsIn_wide.2 (HD.out _ (HE.out.keep HB2.out) (HRt.out.keep HB2.out) HM2.out)).mono ?_⟩
      rintro e w3 ⟨kk, nn, mm, cc, dd, tt, rfl, hq, hb3⟩
      have hb4 := up hb3 (below_box w3 (.cells #[.int .i64 kk, .int .i64 nn, .int .i64 mm, .int .i64 cc, .int .i64 dd, .string tt] 48))
      have HB4 := Lib.hid (up HB2.out hb4)
      have HJ4 := Lib.hid (HJ.out _ _ _ HJ2.out hb4)
      have HM4 := Lib.hid ((hb4.block g (Array.getElem?_eq_some_iff.1 HM2.out).1).trans HM2.out)
      have HX := Lib.hid (Par.Box.new w3 #[.int .i64 kk, .int .i64 nn, .int .i64 mm, .int .i64 cc, .int .i64 dd, .string tt] 48)
      clear hb3 hb4 HB2 HJ2 HM2 HD HRt HT
      cases O with
      | none =>
        rw [show (none : Option Q4).toList = [] from rfl, List.nil_append] at HS
        clear hq
        gi_wp2_with fail
        refine ⟨fun f hf => (by cases hf), ?_⟩
        gi_wp2_with fail
        go_roundw
        case rel => exact ⟨A2, m - k, c' - k, rfl, by omega, r.drop k, by rw [List.length_drop, ← Hmr.out], HRd.out, fun p hp => HPR.out p (List.mem_of_mem_drop hp), pre, by rw [← HS.out]; exact HPen.out, by omega, HJ4.out, HB4.out, HM4.out⟩
        case measure => show m - k < m; omega
      | some q =>
        rw [show (some q : Option Q4).toList = [q] from rfl] at HS
        have hqq := hq q rfl
        unfold qV at hqq
        injection hqq with hqq
        injection hqq with hqq
        simp only [List.cons.injEq, Value.int.injEq, Value.string.injEq, true_and, and_true] at hqq
        obtain ⟨rfl, rfl, rfl, rfl, rfl, rfl⟩ := hqq
        clear hq
        obtain ⟨fn, tmps, assign, body, hy, hR⟩ := HY.out pre q _ HJ4.out (by omega)
        dsimp only [encQ, qV] at hy
        gi_wp2_with fail
        refine ⟨fun h => (by cases h), hR.mono ?_⟩
        rintro e W5 ⟨rfl, hJ5, hk5⟩
        have HF := Lib.hid (show J (pre ++ [q]) W5 ∧ Below w.heap.size w W5 ∧ W5.heap[g]? = some (mapQ tabQ) from ⟨hJ5, HB4.out.trans hk5.1, hk5.2 _ _ _ HM4.out⟩)
        clear hJ5 hk5 hy hR
        gi_wp2_with fail
        go_roundw
        case rel => exact ⟨A2, m - k, c' - k, rfl, by omega, r.drop k, by rw [List.length_drop, ← Hmr.out], HRd.out, fun p hp => HPR.out p (List.mem_of_mem_drop hp), pre ++ [q], by rw [List.append_assoc, ← HS.out]; exact HPen.out, by rw [List.length_append, List.length_singleton]; omega, HF.out⟩
        case measure => show m - k < m; omega
end Go.Proofs.YteepfecplabinaaDoor.Sgr

namespace Go.Proofs.YteepfecplabinaaDoor.Sgr
open Go.RowKit Go.Shelf Utf

attribute [local go_sem] Oper.semAt_some

theorem wpListIn_appP {F : Fence} {n : Nat} (w : World) {ops : Array Oper} {rest : List Oper} {o : Oper} {a : Act} {Q : Exit → Act → World → Prop} (hgd : o.guard = none) (s x : Operand)
    (ho : o.op = .call { callee := .builtin .append, args := #[s, x], argTypes := #[31, 31] })
    (base : Nat) (v : Value) (ps : List Sty.P6) (hs : a.eval s = v) (hown : Sty.OwnP w base v ps) (A : Option Addr) (m c : Nat) (qs : List Sty.P6) (hx : a.eval x = .slice A m c) (hm : qs.length = m) (hr : Sty.RdP w A qs) (hA : A = none → m = 0)
    (hsmall : ps.length + m ≤ 100000) (hbase : base ≤ w.heap.size) (h : ∀ v' w', Sty.OwnP w' base v' (ps ++ qs) → w.grownBy w' v.ownBlock → wpListIn F n Tryd.prog ops Q rest (a.put o.dst v') w') : wpListIn F n Tryd.prog ops Q (o :: rest) a w := by
  refine wpListIn_plain hgd fun K hK' => ?_
  obtain ⟨v', w', hrun, h2, h3⟩ := Sty.run_appP w base o.type v ps hown A m c qs hm hr hA hsmall hbase
  refine ⟨?_, ?_⟩
  · simp [Oper.about, ho, resolve, Target.leads, Sem.run_pure]
  · rw [Oper.semAt_plain F _ _ (by rw [ho]; intro c hc'; cases hc')]
    simp [execOp, ho, resolve, invoke, builtin, hs, hx, hrun, Result.andThen]
    exact hK' _ _ (h v' w' h2 h3)
/-- rows of actions read as pens -/
def pPs (l : List Q4) : List Sty.P6 := l.map pP
theorem pPs_snoc (l : List Q4) (q : Q4) : pPs (l ++ [q]) = pPs l ++ [pP q] := by unfold pPs; rw [List.map_append]; rfl
/-- the pens so far, in the box of the result -/
def PenI (w : World) (B : Nat) (pre : List Q4) (W : World) : Prop :=
  (∃ v, Boxed W B 31 v ∧ Sty.OwnP W w.heap.size v (pPs pre)) ∧ Below w.heap.size w W ∧ pre.length ≤ 17
theorem PenI.keep {w A B : World} {b : Nat} {pre : List Q4} (h : PenI w b pre A) (hb : Below A.heap.size A B) : PenI w b pre B := by
  obtain ⟨⟨v, hv, ho⟩, hl, hn⟩ := h
  exact ⟨⟨v, (hb.block _ hv.lt).trans hv, ho.keep hb⟩, hl.trans (hb.mono hl.size), hn⟩
theorem PenI.put {w A : World} {b : Nat} {pre : List Q4} {l : Nat} {o : Obj} (o' : Obj) (h : PenI w b pre A) (hl : w.heap.size ≤ l) (ha : A.heap[l]? = some o) (ho : o.isCells = false) : PenI w b pre (A.putObj l o') := by
  obtain ⟨⟨v, hv, hr⟩, hb, hn⟩ := h
  refine ⟨⟨v, hv.kept (grownBy_putObj' A l o') ?_, ownsRow_putObj hr o' ha ho⟩, hb.trans ((Below.refl _ A).grown (grownBy_putObj' A l o') hb.size (fun k e => by cases e; exact hl)), hn⟩
  intro e
  injection e with e
  subst e
  rw [show A.heap[b]? = _ from hv] at ha
  cases ha
  cases ho
theorem own_monoP {W : World} {B B' : Nat} {v : Value} {ps : List Sty.P6} (h : Sty.OwnP W B v ps) (hB : B' ≤ B) : Sty.OwnP W B' v ps := by
  rcases h with ⟨h0, hv | ⟨g, cap, cur, hv, h1, h2⟩⟩
  · exact ⟨h0, .inl hv⟩
  · exact ⟨h0, .inr ⟨g, cap, cur, hv, Nat.le_trans hB h1, h2⟩⟩
/-- what Pens hands back -/
def PensPost (w : World) (l : List (List Int)) (e : Ending) (w' : World) : Prop := ∃ v, e = .returned (.tuple #[v, .int .i64 (pensV l).2]) ∧ Sty.OwnP w' w.heap.size v (pPs (pensV l).1) ∧ Below w.heap.size w w'
theorem own_nil (w : World) (B : Nat) : Sty.OwnP w B (.slice none 0 0) [] := World.ownsRow_nil _ _ _ _
theorem pensL_ne (l : List (List Int)) (h : l ≠ []) : pensL l = pensR l := by unfold pensL; rw [if_neg h]; rfl
set_option maxRecDepth 100000 in
set_option maxHeartbeats 4000000 in
/-- parameters that are not valid, and none -/
theorem pens_bad (v : Value) (l : List (List Int)) (w : World) (h : Par.RL w v l) (hl : l.length ≤ 1000000) (hp : ∀ p ∈ l, p.length ≤ 1000000) (hb : Par.isBad l = true) : Calls Tryd.prog 13 #[v] w (PensPost w l) := by
  have hc : Par.chkV l = 150 := by unfold Par.chkV; rw [hb]; rfl
  have HK := Lib.hid (Par.check_any v l w h hl hp)
  rw [hc] at HK
  have HV := Lib.hid (show pensV l = ([], 150) by unfold pensV; rw [hb]; rfl)
  obtain ⟨A, c, rfl⟩ := h.form
  clear h hl hp hb hc
  generalize l.length = n at HK ⊢
  go_enter Tryd.func13, Tryd.ntmps13
  go_wp2_with (go_at_call 23; refine HK.out.mono ?_; rintro e w1 ⟨rfl, hb1⟩)
  go_ret2
  unfold PensPost
  rw [HV.out]
  exact ⟨_, rfl, own_nil _ _, hb1⟩
set_option maxRecDepth 100000 in
set_option maxHeartbeats 4000000 in
/-- none -/
theorem pens_nil (v : Value) (w : World) (h : Par.RL w v []) : Calls Tryd.prog 13 #[v] w (PensPost w []) := by
  have HK := Lib.hid (Par.check_any v [] w h (by decide) (by simp))
  rw [show Par.chkV [] = 0 by decide] at HK
  have HV := Lib.hid (show pensV [] = ([pq 0 0], 0) by decide)
  obtain ⟨A, c, rfl⟩ := h.form
  rw [show ([] : List (List Int)).length = 0 from rfl] at HK ⊢
  clear h
  have HC := Lib.hid (fun W => change_any 0 0 W)
  unfold qV pq at HC
  go_enter Tryd.func13, Tryd.ntmps13
  go_wp2_with (first
    | (go_at_call 23; refine HK.out.mono ?_; rintro e w1 ⟨rfl, hb1⟩)
    | (go_at_call 29; refine (HC.out _).mono ?_; rintro e w2 ⟨rfl, hb2⟩))
  go_ret2
  unfold PensPost
  rw [HV.out]
  have hb3 := Par.up hb1 hb2
  exact ⟨_, rfl, Sty.OwnP.new w2 _ hb3.size [pP (pq 0 0)] #[.int .i64 39, .int .i64 0, .int .i64 0, .int .i64 0, .int .i64 0, .string ⟨#[]⟩] rfl (by decide), Par.up hb3 (below_box _ _)⟩
set_option maxRecDepth 100000 in
set_option maxHeartbeats 4000000 in
/-- valid parameters -/
theorem pens_good (v : Value) (l : List (List Int)) (w : World) (he : Env w) (h : Par.RL w v l) (hne : l ≠ []) (hi : Par.isBad l = false) : Calls Tryd.prog 13 #[v] w (PensPost w l) := by
  obtain ⟨hn1, hn2, _⟩ := Par.bad_no hi
  have hc0 : Par.chkV l = 0 := by unfold Par.chkV; rw [hi]; rfl
  have HK := Lib.hid (Par.check_any v l w h (by omega) (fun p hp => by have := hn2 p hp; omega))
  rw [hc0] at HK
  have HV := Lib.hid (show pensV l = (pensR l, 0) by unfold pensV; rw [hi, ← pensL_ne l hne]; rfl)
  have HL := Lib.hid h
  obtain ⟨A, c, rfl⟩ := h.form
  obtain ⟨n, hn⟩ : ∃ n, n = l.length := ⟨_, rfl⟩
  have hn0 : n ≠ 0 := by rw [hn]; intro h0; exact hne (List.eq_nil_of_length_eq_zero h0)
  rw [← hn] at HK HL hn1 ⊢
  have H2 := Lib.hid hn2
  have Hn := Lib.hid hn
  have HE := Lib.hid he
  have g0 : ((n : Int) == 0) = false := by simp; omega
  clear h hn2 hn hc0 he hi hne hn0
  refine (callsIn_wide (n := 3)).1 ?_
  refine callsIn_of_wp_marks Tryd.func13 rfl trivial ?_ rfl
  simp only [Tryd.ntmps13, List.size_toArray, List.length_cons, List.length_nil, Nat.reduceAdd, Nat.reduceSub, Array.replicate_succ, Array.replicate_zero, List.push_toArray, List.append_toArray, List.nil_append, List.cons_append]
  gi_wp2_with fail
  refine ⟨trivial, (callsIn_wide.2 HK.out).mono ?_⟩
  rintro e w1 ⟨rfl, hb1⟩
  gi_wp2_with fail
  refine ⟨trivial, (pens_in _ _ _ _ _).mono ?_⟩
  rintro e w2 ⟨rfl, rfl⟩
  have bO := Boxed.new w1 31 (.slice none 0 0)
  have bS := Boxed.new (w1.alloc (.cells #[.slice none 0 0] 31)) 22 (.slice A n c)
  rw [World.size_alloc] at bS
  have hB0 : Below w1.heap.size w1 ((w1.alloc (.cells #[.slice none 0 0] 31)).alloc (.cells #[.slice A n c] 22)) := Par.up (below_box _ _) (below_box _ _)
  have HbO := Lib.hid bO; clear bO
  have HbS := Lib.hid bS; clear bS
  have HB0 := Lib.hid hB0; clear hB0
  have HB1 := Lib.hid hb1; clear hb1
  gi_wp2_with fail
  refine range_gen2 encQ (fun _ => True) (gf := 50) (lb := #[.pointer (some ⟨w1.heap.size + 1, 0, none⟩)]) rfl (enters_of Tryd.func50 (by kernel_rfl) rfl) (KpM w1.heap.size) (fun A B C h k => ⟨h.1.trans k.1, fun b es c hb => k.2 b es c (h.2 b es c hb)⟩)
    ?kput ?kb (pensR l) 16 (fun _ => rfl) ?hit (PenI w1 w1.heap.size)
    (fun _ _ _ h hb => h.keep hb) (fun _ _ _ _ o' h hl ha ho => h.put o' (by simp at hl; omega) ha ho) ?h0
    (fun x V a' V' => a' = { tmps := #[.slice A n c, undef, .slice none 0 0, .int .i64 0, .int .i64 0, .pointer (some ⟨w1.heap.size, 0, none⟩), .pointer (some ⟨V.heap.size, 0, none⟩), .slice A n c, .int .i64 0, .int .i64 0, .bool false, undef, .slice A n c, .int .i64 n, .bool false, undef, undef, .slice A n c, .func (.func 50) #[] #[.pointer (some ⟨w1.heap.size + 1, 0, none⟩)], qV x, undef, undef, undef, undef, undef], defers := [] } ∧ V' = V.alloc (.cells (c6q x).toArray 48)) ?has ?assign ?body ?done
  case kput =>
    intro W l' rc o' hl' hw
    simp at hl'
    refine ⟨(Below.refl _ W).grown (grownBy_putObj' W l' o') (by have := (Array.getElem?_eq_some_iff.1 hw).1; omega) (fun k e => by cases e; omega), fun b es cc hb => ?_⟩
    rw [World.putObj_heap_other (by rintro rfl; rw [hw] at hb; cases hb)]
    exact hb
  case kb =>
    intro X Y hXs hXY
    simp at hXs
    exact ⟨hXY.mono (by omega), fun b es cc hb => (hXY.block b (Array.getElem?_eq_some_iff.1 hb).1).trans hb⟩
  case hit =>
    intro l' J W hb hJ hY h0
    exact iter_in _ l' (w1.heap.size + 1) (.slice A n c) l w1 (HE.out.keep HB1.out) (HL.out.keep HB1.out) (by rw [← Hn.out]; exact hn1) (fun p hp => ⟨(H2.out p hp).1, (H2.out p hp).2.1⟩) J hJ (fun pre x W1 hj hp => hY pre x W1 hj trivial hp) W (Par.up HB0.out hb) ((hb.block _ (HbS.out).lt).trans HbS.out) h0
  case h0 => exact ⟨⟨_, (HbO.out).alloc _, own_nil _ _⟩, HB0.out, by simp⟩
  case has => rintro x W a' W' ⟨-, rfl⟩; exact below_box _ _
  case assign =>
    intro l' x W K hK
    dsimp only [encQ]
    unfold qV at hK ⊢
    have HK2 := Lib.hid hK
    clear hK
    gi_wp2
    exact HK2.out _ _ ⟨rfl, rfl⟩
  case body =>
    rintro l' pre x V a' V' W ⟨rfl, rfl⟩ ⟨⟨v, hv, hr⟩, hb, hlen⟩ hor - hp
    have hY0 : Sty.Box (V.alloc (.cells (c6q x).toArray 48)) V.heap.size (c6q x) := Sty.Box.new V (c6q x).toArray _
    have hY : Sty.Box W V.heap.size (c6q x) := by
      rcases hor with h | ⟨k, o, o', rfl, hk, hko, hoc⟩
      · exact hY0.keep h
      · have hne : V.heap.size ≠ k := by
          rintro rfl
          rw [heap_alloc_new] at hko
          cases hko
          cases hoc
        exact hY0.at (by simp) (World.putObj_heap_other hne)
    have y0 := hY.cell 0 _ rfl
    have y1 := hY.cell 1 _ rfl
    have y2 := hY.cell 2 _ rfl
    have y3 := hY.cell 3 _ rfl
    have y4 := hY.cell 4 _ rfl
    have y5 := hY.cell 5 _ rfl
    have hc := hv.cell
    have Hv := Lib.hid hv
    have Hr := Lib.hid hr
    have Hb := Lib.hid hb
    have hrd : Sty.RdP (W.alloc (.cells #[.int .i64 39, .int .i64 x.n, .int .i64 x.m, .int .i64 x.c0, .int .i64 x.c1, .string ⟨#[]⟩] 48)) (some ⟨W.heap.size, 0, none⟩) [pP x] := (Sty.OwnP.new W w1.heap.size hb.size [pP x] #[.int .i64 39, .int .i64 x.n, .int .i64 x.m, .int .i64 x.c0, .int .i64 x.c1, .string ⟨#[]⟩] rfl (by simp [maxLen])).rd
    have Hrd := Lib.hid hrd
    clear hv hr hb hor hY0 hY hrd
    gi_wp2_with (gi_at_builtin; refine wpListIn_appP _ rfl _ _ rfl w1.heap.size v (pPs pre) rfl (Hr.out.keep (below_box _ _)) (some ⟨W.heap.size, 0, none⟩) 1 1 [pP x] rfl rfl Hrd.out (fun h => by cases h) (by unfold pPs; rw [List.length_map]; omega) (by rw [World.size_alloc]; have := Hb.out.size; omega) ?_; intro v' w3 hown' hgrow; refine Hid.out ?_)
    refine Lib.hid ?_
    obtain ⟨A', c', hsh, _, _⟩ := Sty.OwnP.form hown'
    generalize (pPs pre ++ [pP x]).length = m' at hsh
    subst hsh
    obtain ⟨g1, g2, g3, g4, g5⟩ := Boxed.appended Hv.out (by decide) Hr.out Hb.out.size (Nat.le_refl _) hown' hgrow
    have q4 := g1.cell
    have q5 := g1.frozen
    have G := Lib.hid (show (∀ (k : Nat) (o : Obj), W.heap[k]? = some o → o.isCells = false → (w3.setCell ⟨w1.heap.size, 0, none⟩ (.slice A' m' c')).heap[k]? = some o) ∧ KpM w1.heap.size W (w3.setCell ⟨w1.heap.size, 0, none⟩ (.slice A' m' c')) ∧ PenI w1 w1.heap.size (pre ++ [x]) (w3.setCell ⟨w1.heap.size, 0, none⟩ (.slice A' m' c')) from
      ⟨fun k o h1 h2 => g4.same k o h1 h2, ⟨g5, fun k es cc h1 => g4.same k _ h1 rfl⟩, ⟨_, g2, by rw [pPs_snoc]; exact g3⟩, Hb.out.trans g5, by rw [List.length_append, List.length_singleton]; omega⟩)
    clear g1 g2 g3 g4 g5 hown' hgrow
    gi_wp2_with fail
    exact ⟨fun k o _ h1 h2 => G.out.1 k o h1 h2, G.out.2.1, G.out.2.2⟩
  case done =>
    rintro D W hD ⟨⟨v, hv, hr⟩, hb, hlen⟩ hK
    have hc := hv.cell
    have Hr := Lib.hid hr; clear hr
    have Hv := Lib.hid hv; clear hv
    gi_wp2
    refine ⟨by simp, .inl ⟨_, _, rfl, run_takeDeferred hK, ?_⟩⟩
    refine ⟨_, results_tmp2 rfl _ _ _, ?_⟩
    unfold PensPost
    rw [HV.out]
    exact ⟨v, rfl, own_monoP (ownsRow_putObj Hr.out _ hK rfl) HB1.out.size, Par.up HB1.out (hb.trans ((Below.refl _ W).grown (grownBy_putObj' W D _) hb.size (fun k e => by cases e; simp at hD; omega)))⟩
/-- the pens that parameters denote -/
theorem pens_any (v : Value) (l : List (List Int)) (w : World) (he : Env w) (h : Par.RL w v l) (hl : l.length ≤ 1000000) (hp : ∀ p ∈ l, p.length ≤ 1000000) : Calls Tryd.prog 13 #[v] w (PensPost w l) := by
  cases hb : Par.isBad l with
  | true => exact pens_bad v l w h hl hp hb
  | false =>
    by_cases hne : l = []
    · subst hne; exact pens_nil v w h
    · exact pens_good v l w he h hne hb
end Go.Proofs.YteepfecplabinaaDoor.Sgr
