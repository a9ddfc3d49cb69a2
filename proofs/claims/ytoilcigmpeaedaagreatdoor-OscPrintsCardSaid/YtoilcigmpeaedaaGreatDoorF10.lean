/-
  UtfJ UtfK
-/
import Derived.Test.YtoilcigmpeaedaaGreatDoorF7
import Derived.Test.YtoilcigmpeaedaaGreatDoorF9
namespace Go.Proofs.YtoilcigmpeaedaaGreatDoor.Utf
open Go.RowKit Go.Shelf

attribute [local go_sem] Oper.semAt_some

set_option maxHeartbeats 1000000 in
theorem steps_in (n : Nat) (s : ByteArray) (w : World) :
    CallsIn Fence.wide n Tryz.prog 94 #[.string s] w fun e w' => e = .returned (.func (.func 109) #[] #[.pointer (some ⟨w.heap.size, 0, none⟩)]) ∧ w' = w.alloc (.cells #[.string s] 9) := by
  refine callsIn_of_wp Tryz.func94 rfl trivial ?_ rfl
  simp only [Tryz.ntmps94, List.size_toArray, List.length_cons, List.length_nil, Nat.reduceAdd, Nat.reduceSub, Array.replicate_succ, Array.replicate_zero, List.push_toArray, List.append_toArray, List.nil_append, List.cons_append]
  gi_wp2
  go_ret
  exact ⟨rfl, rfl⟩

theorem runL_take (l : List UInt8) (k : Nat) (b : UInt8) (h : l[k]? = some b) :
    runL ([], []) (l.take (k + 1)) = ((stepL (runL ([], []) (l.take k)).1 b).1, (runL ([], []) (l.take k)).2 ++ (stepL (runL ([], []) (l.take k)).1 b).2) := by
  rw [List.take_add_one, h]; exact runL_snoc _ _ _

theorem runL_p (st : List UInt8 × List Int) (h : st.1.length ≤ 3) (l : List UInt8) : (runL st l).1.length ≤ 3 := by
  induction l generalizing st with
  | nil => exact h
  | cons x r ih => exact ih _ (stepL_len st.1 x).1

set_option maxRecDepth 100000 in
set_option maxHeartbeats 2000000 in
theorem iter_in (n n₀ l Bs : Nat) (s : ByteArray) (hs : s.size ≤ 100000) (J : List Int → World → Prop) (hJ : ∀ pre A B, J pre A → Below A.heap.size A B → J pre B)
    (hY : ∀ pre zs A c W1, J pre W1 → Rd W1 A (cI zs) → zs.length ≤ 2 → pre.length ≤ 2 * s.size → YieldAt Fence.wide (n - 1) Tryz.prog l #[.slice A zs.length c] W1 fun e W' => e = .returned (.bool true) ∧ J (pre ++ zs) W' ∧ KeepB n₀ W1 W')
    (W : World) (hm : Mk W) (hn₀ : 4 < n₀) (hB : Boxed W Bs 9 (.string s)) (h0 : J [] W) :
    CallsIn Fence.wide n Tryz.prog 109 #[.func (.yield l) #[] #[], .pointer (some ⟨Bs, 0, none⟩)] W fun e W' => (∃ v, e = .returned v) ∧ J (codesL s.data.toList) W' := by
  have HJ := Lib.hid hJ; clear hJ
  have HY := Lib.hid hY; clear hY
  have HM := Lib.hid hm; clear hm
  have hc := hB.cell
  have HB := Lib.hid hB; clear hB
  have H0 := Lib.hid h0; clear h0
  refine callsIn_of_wp Tryz.func109 rfl trivial ?_ rfl
  simp only [Tryz.ntmps109, List.size_toArray, List.length_cons, List.length_nil, Nat.reduceAdd, Nat.reduceSub, Array.replicate_succ, Array.replicate_zero, List.push_toArray, List.append_toArray, List.nil_append, List.cons_append]
  gi_wp2
  gi_loopw [3, 8] (fun r i wr => ∃ (k : Nat) (A : Option Addr) (c : Nat), k ≤ s.size ∧ i = .int .i64 k ∧ r = .slice A (runL ([], []) (s.data.toList.take k)).1.length c ∧ Hid ((runL ([], []) (s.data.toList.take k)).1.length ≤ c ∧ TyB wr A ∧ Rd wr A (cB (runL ([], []) (s.data.toList.take k)).1) ∧ J (runL ([], []) (s.data.toList.take k)).2 wr ∧ Mk wr ∧ Boxed wr Bs 9 (.string s)))
    (fun _ i _ => s.size - (intOf i).toNat)
  case atStart => exact ⟨0, none, 0, Nat.zero_le _, rfl, rfl, Nat.le_refl _, TyB.none _, Rd.nil _ _, H0.out, HM.out, HB.out⟩
  case round =>
    obtain ⟨k, A, c, hk, rfl, rfl, hid⟩ := hrel
    have hcr := hid.out.2.2.2.2.2.cell
    have hpl := runL_len ([], []) (s.data.toList.take k)
    have hpp := runL_p ([], []) (by simp) (s.data.toList.take k)
    obtain ⟨st, hst⟩ : ∃ st, runL ([], []) (s.data.toList.take k) = st := ⟨_, rfl⟩
    rw [hst] at hid hpl hpp ⊢
    have hpre : st.2.length ≤ 2 * s.size := by
      have : (s.data.toList.take k).length ≤ s.size := by rw [List.length_take]; simp; omega
      simp only [List.length_nil] at hpl
      omega
    clear hpl
    by_cases hlt : k < s.size
    · have hsk : s.data.toList[k]? = some s[k] := by
        rw [List.getElem?_eq_getElem (by simpa using hlt)]; rfl
      have Hrun := Lib.hid (runL_take s.data.toList k s[k] hsk); clear hsk
      rw [hst] at Hrun
      have Hst := Lib.hid hst; clear hst
      obtain ⟨p, pre⟩ := st
      gi_wp2_with fail
      refine ⟨trivial, fun h => (by cases h), (callsIn_wide.2 (step_any A c p s[k] _ hid.out.2.2.1 hid.out.2.2.2.2.1 hid.out.1 (by omega))).mono ?_⟩
      rintro e w1 ⟨A1, c1, A2, c2, rfl, hcc, ht1, hr1, hr2, hb1⟩
      have hlen := stepL_len p s[k]
      obtain ⟨l1, hl1⟩ : ∃ l, (stepL p s[k]).1 = l := ⟨_, rfl⟩
      obtain ⟨l2, hl2⟩ : ∃ l, (stepL p s[k]).2 = l := ⟨_, rfl⟩
      rw [hl1] at hcc hr1 hlen Hrun ⊢
      rw [hl2] at hr2 hlen Hrun ⊢
      clear hl1 hl2
      obtain ⟨fn, tmps, assign, body, hy, hR⟩ := HY.out pre l2 A2 c2 w1 (HJ.out _ _ _ hid.out.2.2.2.1 hb1) hr2 hlen.2 hpre
      have HR2 := Lib.hid hr2; clear hr2
      have HR1 := Lib.hid hr1; clear hr1
      have hbx := Lib.hid (show Boxed w1 Bs 9 (.string s) from (hb1.block _ hid.out.2.2.2.2.2.lt).trans hid.out.2.2.2.2.2)
      gi_wp2_with fail
      refine ⟨fun h => (by cases h), hR.mono ?_⟩
      rintro e W3 ⟨rfl, hJ3, hk3⟩
      have HF := Lib.hid (show l1.length ≤ c1 ∧ TyB W3 A1 ∧ Rd W3 A1 (cB l1) ∧ J (pre ++ l2) W3 ∧ Mk W3 ∧ Boxed W3 Bs 9 (.string s) from
        ⟨hcc, hk3.ty ht1, hk3.rd ht1 HR1.out, hJ3, (hid.out.2.2.2.2.1.keep hb1).below hk3.low hn₀, (hk3.same _ _ _ _ hbx.out (.inr rfl)).trans hbx.out⟩)
      clear hJ3 hk3 hy hR ht1
      gi_wp2
      go_roundw
      case rel => exact ⟨k + 1, A1, c1, by omega, by go_num, by rw [Hrun.out], by rw [Hrun.out]; exact HF⟩
      case measure => simp [intOf]; omega
    · have ht : s.data.toList.take k = s.data.toList := List.take_of_length_le (by simp; omega)
      rw [ht] at hst
      have Hst := Lib.hid (show codesL s.data.toList = st.2 ++ flushL st.1 by unfold codesL; rw [hst]); clear hst ht
      have hfl := flushL_len st.1
      gi_wp2_with fail
      refine ⟨trivial, fun h => (by cases h), (callsIn_wide.2 (flush_any A c st.1 _ hid.out.2.2.1 hid.out.2.2.2.2.1 hid.out.1 (by omega))).mono ?_⟩
      rintro e w1 ⟨A2, c2, rfl, hr2, hb1, _⟩
      obtain ⟨fn, tmps, assign, body, hy, hR⟩ := HY.out st.2 (flushL st.1) A2 c2 w1 (HJ.out _ _ _ hid.out.2.2.2.1 hb1) hr2 (by omega) hpre
      have HR2 := Lib.hid hr2; clear hr2
      gi_wp2_with fail
      refine ⟨fun h => (by cases h), hR.mono ?_⟩
      rintro e W3 ⟨rfl, hJ3, hk3⟩
      clear hk3 hy hR
      gi_wp2
      go_end0
      exact ⟨⟨_, rfl⟩, by rw [Hst.out]; exact hJ3⟩
end Go.Proofs.YtoilcigmpeaedaaGreatDoor.Utf

namespace Go.Proofs.YtoilcigmpeaedaaGreatDoor.Utf
open Go.RowKit Go.Shelf

attribute [local go_sem] Oper.semAt_some

theorem wpListIn_app {F : Fence} {n : Nat} {P : Program} (w : World) {ops : Array Oper} {rest : List Oper} {o : Oper} {a : Act} {Q : Exit → Act → World → Prop} (hgd : o.guard = none) (s x : Operand) (t : TypeId)
    (ho : o.op = .call { callee := .builtin .append, args := #[s, x], argTypes := #[t, t] })
    (base : Nat) (e : TypeId) (i : TypeInfo) (z : Value) (bytes : Nat) (ht : P.underlying t = some (.slice e)) (hi : P.info? e = some i) (hz : i.zero = some z)
    (hsize : i.size = 1) (hby : i.bytes = bytes) (hzs : z.cells.size = 1)
    (v : Value) (k : Nat) (xs : List Value) (hs : a.eval s = v) (hown : w.ownsRow base e 1 v k xs)
    (A : Option Addr) (m c : Nat) (news : List Value) (hx : a.eval x = .slice A m c) (hm : news.length = m) (hr : Rd w A news) (h1 : ∀ u ∈ news, u.oneCell' = true)
    (hsmall : k + m ≤ 1000000) (hb8 : bytes ≤ 64) (hbase : base ≤ w.heap.size)
    (h : ∀ v' w', w'.ownsRow base e 1 v' (k + m) (xs ++ news) → w.grownBy w' v.ownBlock → wpListIn F n P ops Q rest (a.put o.dst v') w') : wpListIn F n P ops Q (o :: rest) a w := by
  refine wpListIn_plain hgd fun K hK' => ?_
  obtain ⟨v', w', hrun, h2, h3, _⟩ := run_app (P := P) w base t o.type e i z bytes ht hi hz hsize hby hzs v k xs hown A m c news hm hr h1 hsmall hb8 hbase
  refine ⟨?_, ?_⟩
  · simp [Oper.about, ho, resolve, Target.leads, Sem.run_pure]
  · rw [Oper.semAt_plain F _ _ (by rw [ho]; intro c hc'; cases hc')]
    simp [execOp, ho, resolve, invoke, builtin, hs, hx, hrun, Result.andThen]
    exact hK' _ _ (h v' w' h2 h3)

def CodI (w : World) (pre : List Int) (W : World) : Prop :=
  (∃ v, Boxed W w.heap.size 27 v ∧ W.ownsRow w.heap.size 3 1 v pre.length (cI pre)) ∧ Below w.heap.size w W

theorem CodI.keep {w A B : World} {pre : List Int} (h : CodI w pre A) (hb : Below A.heap.size A B) : CodI w pre B := by
  obtain ⟨⟨v, hv, ho⟩, hl⟩ := h
  exact ⟨⟨v, (hb.block _ hv.lt).trans hv, own_below ho hb⟩, hl.trans (hb.mono hl.size)⟩
theorem CodI.put {w A : World} {pre : List Int} {l : Nat} {o : Obj} (o' : Obj) (h : CodI w pre A) (hl : w.heap.size ≤ l) (ha : A.heap[l]? = some o) (ho : o.isCells = false) : CodI w pre (A.putObj l o') := by
  obtain ⟨⟨v, hv, hr⟩, hb⟩ := h
  refine ⟨⟨v, hv.kept (grownBy_putObj' A l o') ?_, ownsRow_putObj hr o' ha ho⟩, hb.trans ((Below.refl _ A).grown (grownBy_putObj' A l o') hb.size (fun k e => by cases e; exact hl))⟩
  intro e
  cases e
  rw [show A.heap[w.heap.size]? = _ from hv] at ha
  cases ha
  cases ho

theorem CodI.app {w W w1 : World} {pre zs : List Int} {v v' : Value} (hv : Boxed W w.heap.size 27 v) (hr : W.ownsRow w.heap.size 3 1 v pre.length (cI pre)) (hb : Below w.heap.size w W)
    (hown : w1.ownsRow w.heap.size 3 1 v' (pre.length + zs.length) (cI pre ++ cI zs)) (hg : W.grownBy w1 v.ownBlock) :
    Boxed w1 w.heap.size 27 v ∧ (∀ (k : Nat) (o : Obj), W.heap[k]? = some o → o.isCells = false → (w1.setCell ⟨w.heap.size, 0, none⟩ v').heap[k]? = some o) ∧
      KeepB w.heap.size W (w1.setCell ⟨w.heap.size, 0, none⟩ v') ∧ CodI w (pre ++ zs) (w1.setCell ⟨w.heap.size, 0, none⟩ v') := by
  have hv1 : Boxed w1 w.heap.size 27 v := hv.kept hg (hv.not_row (by decide) hr)
  have hlow : Below w.heap.size W (w1.setCell ⟨w.heap.size, 0, none⟩ v') := ((Below.refl _ _).grown hg hb.size fun k hk => (hr.lt k hk).1).setCell (p := ⟨w.heap.size, 0, none⟩) (Nat.le_refl _) v'
  refine ⟨hv1, fun k o hk ho => ?_, ⟨hlow, fun k cur t fr hk ht => ?_⟩, ⟨v', hv1.set v', ?_⟩, hb.trans hlow⟩
  · have hlt := (Array.getElem?_eq_some_iff.1 hk).1
    have n1 : some k ≠ v.ownBlock := fun e => by
      rcases hr.2 with ⟨rfl, _⟩ | ⟨g, cap, cur, rfl, _, hgb, _⟩
      · simp [Value.ownBlock] at e
      · obtain rfl : k = g := by simpa [Value.ownBlock] using e
        rw [hgb] at hk; cases hk; cases ho
    have n2 : k ≠ w.heap.size := fun e => by
      rw [e, show W.heap[w.heap.size]? = _ from hv] at hk; cases hk; cases ho
    exact (Below.heap_setCell w1 ⟨w.heap.size, 0, none⟩ v' k n2).trans ((hg.block k hlt n1).trans hk)
  · have hlt := (Array.getElem?_eq_some_iff.1 hk).1
    have n1 : some k ≠ v.ownBlock := fun e => by
      rcases hr.2 with ⟨rfl, _⟩ | ⟨g, cap, cur', rfl, _, hgb, _⟩
      · simp [Value.ownBlock] at e
      · obtain rfl : k = g := by simpa [Value.ownBlock] using e
        rw [hgb] at hk; cases hk; rcases ht with ht | ht <;> exact absurd ht (by decide)
    have n2 : k ≠ w.heap.size := fun e => by
      rw [e, show W.heap[w.heap.size]? = _ from hv] at hk; cases hk; rcases ht with ht | ht <;> exact absurd ht (by decide)
    exact (Below.heap_setCell w1 ⟨w.heap.size, 0, none⟩ v' k n2).trans (hg.block k hlt n1)
  · have := hown.kept (grownBy_setCell' w1 w.heap.size v') (.inr (hv1.not_row (by decide) hown).symm)
    rw [cI_append, List.length_append]
    exact this

set_option maxRecDepth 100000 in
set_option maxHeartbeats 2000000 in
theorem codes_any (s : ByteArray) (w : World) (hm : Mk w) (hs : s.size ≤ 100000) :
    Calls Tryz.prog 78 #[.string s] w fun e W' => ∃ v, e = .returned v ∧ W'.ownsRow w.heap.size 3 1 v (codesL s.data.toList).length (cI (codesL s.data.toList)) ∧ Below w.heap.size w W' := by
  obtain ⟨i0, hi0, hz0, hz1, hz2⟩ := info_parts infoI
  have hfin : (codesL s.data.toList).length ≤ 2 * s.size + 1 := by
    have h1 := runL_len ([], []) s.data.toList
    have h2 := flushL_len (runL ([], []) s.data.toList).1
    simp only [List.length_nil, Array.length_toList] at h1
    unfold codesL
    rw [List.length_append]
    have : s.data.size = s.size := rfl
    omega
  have HM := Lib.hid hm; clear hm
  refine (callsIn_wide (n := 3)).1 ?_
  refine callsIn_of_wp_marks Tryz.func78 rfl trivial ?_ rfl
  simp only [Tryz.ntmps78, List.size_toArray, List.length_cons, List.length_nil, Nat.reduceAdd, Nat.reduceSub, Array.replicate_succ, Array.replicate_zero, List.push_toArray, List.append_toArray, List.nil_append, List.cons_append]
  gi_wp2_with fail
  refine ⟨trivial, (steps_in _ _ _).mono ?_⟩
  rintro e w' ⟨rfl, rfl⟩
  have bO := Boxed.new w 27 (.slice none 0 0)
  have bS := Boxed.new (w.alloc (.cells #[.slice none 0 0] 27)) 9 (.string s)
  rw [World.size_alloc] at bS
  have hB0 : Below w.heap.size w ((w.alloc (.cells #[.slice none 0 0] 27)).alloc (.cells #[.string s] 9)) := ((Below.refl _ w).alloc (Nat.le_refl _) _).alloc (by simp) _
  have HbO := Lib.hid bO; clear bO
  have HbS := Lib.hid bS; clear bS
  have HB0 := Lib.hid hB0; clear hB0
  gi_wp2_with fail
  refine range_read (gf := 109) (lb := #[.pointer (some ⟨w.heap.size + 1, 0, none⟩)]) rfl (enters_of Tryz.func109 (by kernel_rfl) rfl) w.heap.size (by simp; omega) (codesL s.data.toList) (2 * s.size) rfl ?hit (CodI w)
    (fun _ _ _ h hb => h.keep hb) (fun _ _ _ _ o' h hl ha ho => h.put o' (by simp at hl; omega) ha ho) ?h0
    (fun v => { tmps := #[.string s, undef, .slice none 0 0, .pointer (some ⟨w.heap.size, 0, none⟩), v, .string s, .func (.func 109) #[] #[.pointer (some ⟨w.heap.size + 1, 0, none⟩)], v, undef, undef, undef, undef], defers := [] }) ?assign ?body ?done
  case hit =>
    intro l J W hb hJ hY h0
    exact iter_in _ w.heap.size l (w.heap.size + 1) s hs J hJ hY W (((HM.out).keep HB0.out).keep hb) HM.out.1 ((hb.block _ (HbS.out).lt).trans HbS.out) h0
  case h0 => exact ⟨⟨_, (HbO.out).alloc _, World.ownsRow_nil _ _ _ _⟩, HB0.out⟩
  case assign =>
    intro l v W K hK
    gi_wp2
    exact hK
  case body =>
    rintro l pre zs A c W ⟨⟨v, hv, hr⟩, hb⟩ hrd hz hp
    have hc := hv.cell
    have Hv := Lib.hid hv; clear hv
    have Hr := Lib.hid hr; clear hr
    have Hd := Lib.hid hrd; clear hrd
    gi_wp2_with (gi_at_builtin; refine wpListIn_app _ rfl _ _ 27 rfl w.heap.size 3 i0 _ 8 Tryz.underlying27 hi0 hz0 hz1 hz2 rfl v pre.length (cI pre) rfl Hr.out A zs.length c (cI zs) rfl (cI_len _) Hd.out (cI_one _) (by omega) (by omega) hb.size ?_; intro v' w1 hown' hgrow; obtain ⟨hv1, hk2, hkb, hci⟩ := CodI.app Hv.out Hr.out hb hown' hgrow; obtain ⟨A', c', hsh, _, _⟩ := own_slice hown'; subst hsh; have hc1 := hv1.cell; have hf1 := hv1.frozen; have Hk2 := Lib.hid hk2; clear hk2; have Hkb := Lib.hid hkb; clear hkb; have Hci := Lib.hid hci; clear hci; clear hown' hgrow hv1)
    exact ⟨fun k o _ h1 h2 => Hk2.out k o h1 h2, Hkb.out, Hci.out⟩
  case done =>
    rintro D W hD ⟨⟨v, hv, hr⟩, hb⟩ hK
    have hc := hv.cell
    have Hr := Lib.hid hr; clear hr
    have Hv := Lib.hid hv; clear hv
    gi_wp2
    refine ⟨by simp, .inl ⟨_, _, rfl, run_takeDeferred hK, ?_⟩⟩
    exact ⟨_, results_tmp rfl _ _ _, v, rfl, ownsRow_putObj Hr.out _ hK rfl, hb.trans (belowK_b (w := w) (Nat.le_refl _) W D _ _ (by simp at hD; omega) hK rfl rfl)⟩
end Go.Proofs.YtoilcigmpeaedaaGreatDoor.Utf
