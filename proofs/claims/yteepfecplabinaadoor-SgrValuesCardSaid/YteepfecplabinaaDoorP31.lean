/-
  ParK ParT
-/
import Derived.Lib.AppendStr
import Derived.Test.YteepfecplabinaaDoorP25
import Derived.Test.YteepfecplabinaaDoorP29
import Derived.Test.YteepfecplabinaaDoorP30
namespace Go.Proofs.YteepfecplabinaaDoor.Par
open Go.RowKit Go.Shelf Utf

attribute [local go_sem] Oper.semAt_some

/-- the library's table of powers of ten lies as it was laid, and will in whatever grows out of this world -/
def Tab (w : World) : Prop := Lib.TabBelow Tryd.prog w.heap.size w "internal/strconv.uint64pow10" .u64 Lib.pow10Tab
theorem Tab.keep {w w' : World} (h : Tab w) (hb : Below w.heap.size w w') : Tab w' := fun W hW => h W (up hb hW)
def prtI (x : It) : List UInt8 := x.1 ++ (if x.2 = -1 then [] else Lib.itoa x.2)
def prtL (l : List (List Int)) : List UInt8 := (itemsL 0 l).flatMap prtI
def prtV (l : List (List Int)) : ByteArray := if isBad l then ⟨#[]⟩ else ⟨(prtL l).toArray⟩
theorem strCells_cB (l : List UInt8) : Lib.strCells ⟨l.toArray⟩ = cB l := by simp [Lib.strCells, cB]
theorem byteCells_cB (l : List UInt8) : Lib.byteCells l = cB l := rfl
theorem infoB : (Tryd.prog.info? 5).map (fun i => (i.zero, i.size, i.bytes)) = some (some (.int .u8 0), 1, 1) := by kernel_rfl

theorem wpListIn_appS {F : Fence} {n : Nat} {P : Program} (w : World) {ops : Array Oper} {rest : List Oper} {o : Oper} {a : Act} {Q : Exit → Act → World → Prop} (hgd : o.guard = none) (s x : Operand) (t u : TypeId)
    (ho : o.op = .call { callee := .builtin .append, args := #[s, x], argTypes := #[t, u] })
    (base : Nat) (e : TypeId) (i : TypeInfo) (ht : P.underlying t = some (.slice e)) (hu : P.underlying u = some .string) (hi : P.info? e = some i) (hz : i.zero = some (.int .u8 0))
    (hsize : i.size = 1) (hby : i.bytes = 1)
    (v : Value) (k : Nat) (xs : List Value) (hs : a.eval s = v) (hown : w.ownsRow base e 1 v k xs) (str : ByteArray) (hx : a.eval x = .string str)
    (h63 : k + str.size ≤ maxLen) (hbytes : k + str.size ≤ 140737488355328) (hbase : base ≤ w.heap.size)
    (h : ∀ v' w', w'.ownsRow base e 1 v' (k + str.size) (xs ++ Lib.strCells str) → w.grownBy w' v.ownBlock → wpListIn F n P ops Q rest (a.put o.dst v') w') : wpListIn F n P ops Q (o :: rest) a w := by
  refine wpListIn_plain hgd fun K hK' => ?_
  obtain ⟨v', w', hrun, h2, h3, _⟩ := Lib.run_append_own_string (P := P) w base t u o.type e i ht hu hi hz hsize hby v k xs hown str h63 hbytes hbase
  refine ⟨?_, ?_⟩
  · simp [Oper.about, ho, resolve, Target.leads, Sem.run_pure]
  · rw [Oper.semAt_plain F _ _ (by rw [ho]; intro c hc'; cases hc')]
    simp [execOp, ho, resolve, invoke, builtin, hs, hx, hrun, Result.andThen]
    exact hK' _ _ (h v' w' h2 h3)

/-- what stands while Print goes over the parts: the text in its row, the row in its box -/
def PrtI (w : World) (pre : List It) (W : World) : Prop :=
  (∃ v, Boxed W w.heap.size 24 v ∧ W.ownsRow w.heap.size 5 1 v (pre.flatMap prtI).length (cB (pre.flatMap prtI))) ∧ Below w.heap.size w W ∧ (pre.flatMap prtI).length ≤ 5 * pre.length
theorem PrtI.keep {w A B : World} {pre : List It} (h : PrtI w pre A) (hb : Below A.heap.size A B) : PrtI w pre B := by
  obtain ⟨⟨v, hv, ho⟩, hl, hn⟩ := h
  exact ⟨⟨v, (hb.block _ hv.lt).trans hv, own_below ho hb⟩, hl.trans (hb.mono hl.size), hn⟩
theorem PrtI.put {w A : World} {pre : List It} {l : Nat} {o : Obj} (o' : Obj) (h : PrtI w pre A) (hl : w.heap.size ≤ l) (ha : A.heap[l]? = some o) (ho : o.isCells = false) : PrtI w pre (A.putObj l o') := by
  obtain ⟨⟨v, hv, hr⟩, hb, hn⟩ := h
  refine ⟨⟨v, hv.kept (grownBy_putObj' A l o') ?_, ownsRow_putObj hr o' ha ho⟩, hb.trans ((Below.refl _ A).grown (grownBy_putObj' A l o') hb.size (fun k e => by cases e; exact hl)), hn⟩
  intro e
  cases e
  rw [show A.heap[w.heap.size]? = _ from hv] at ha
  cases ha
  cases ho
/-- a row that has grown, stored into its box -/
theorem boxed_row {B n' : Nat} {W w1 : World} {v v' : Value} {xs' : List Value} (hv : Boxed W B 24 v) (hown : w1.ownsRow B 5 1 v' n' xs') (hk : Lib.OthersKept 5 none W w1) (hl : Below B W w1) :
    Boxed w1 B 24 v ∧ Boxed (w1.setCell ⟨B, 0, none⟩ v') B 24 v' ∧ (w1.setCell ⟨B, 0, none⟩ v').ownsRow B 5 1 v' n' xs' ∧ Below B W (w1.setCell ⟨B, 0, none⟩ v') ∧
      (∀ (k : Nat) (o : Obj), W.heap[k]? = some o → o.isCells = false → (w1.setCell ⟨B, 0, none⟩ v').heap[k]? = some o) := by
  have hv1 : Boxed w1 B 24 v := hk B _ hv (by simp) (fun c fz e => by cases e)
  refine ⟨hv1, hv1.set v', hown.kept (grownBy_setCell' w1 B v') (.inr (hv1.not_row (by decide) hown).symm), hl.setCell (p := ⟨B, 0, none⟩) (Nat.le_refl _) v', fun k o hko ho => ?_⟩
  have h1 := hk k o hko (by simp) (fun c fz e => by subst e; cases ho)
  have n2 : k ≠ B := fun e => by
    rw [e, show W.heap[B]? = _ from hv] at hko; cases hko; cases ho
  exact (Below.heap_setCell w1 ⟨B, 0, none⟩ v' k n2).trans h1
theorem others_grown {B n : Nat} {W w1 : World} {v : Value} {xs : List Value} (hr : W.ownsRow B 5 1 v n xs) (hg : W.grownBy w1 v.ownBlock) : Lib.OthersKept 5 none W w1 :=
  (Lib.OthersKept.refl _ _ _).grown hg (fun g e => by
    rcases hr.2 with ⟨rfl, _⟩ | ⟨g', cap, cur, rfl, _, hgb, _⟩
    · simp [Value.ownBlock] at e
    · obtain rfl : g' = g := by simpa [Value.ownBlock] using e
      exact ⟨_, _, hgb⟩)
def OkIt (x : It) : Prop := x.1.length ≤ 1 ∧ -1 ≤ x.2 ∧ x.2 ≤ 9999
theorem itoa_len (z : Int) (h0 : 0 ≤ z) (h1 : z ≤ 9999) : (Lib.itoa z).length ≤ 4 := by
  unfold Lib.itoa
  rw [if_neg (by omega), Lib.decDigits_length]
  by_cases h : z.toNat < 10
  · rw [Lib.nDigits_small h]; omega
  · rw [Lib.nDigits_big h]
    by_cases h2 : z.toNat / 10 < 10
    · rw [Lib.nDigits_small h2]; omega
    · rw [Lib.nDigits_big h2]
      by_cases h3 : z.toNat / 10 / 10 < 10
      · rw [Lib.nDigits_small h3]; omega
      · rw [Lib.nDigits_big h3, Lib.nDigits_small (by omega)]; omega
theorem prtI_len (x : It) (h : OkIt x) : (prtI x).length ≤ 5 := by
  unfold prtI
  rw [List.length_append]
  have h1 := h.1
  split
  · simp; omega
  · have := itoa_len x.2 (by have := h.2.1; omega) h.2.2
    omega
theorem PrtI.snoc {w W : World} {pre : List It} {x : It} {v : Value} {n : Nat} (hv : Boxed W w.heap.size 24 v) (hr : W.ownsRow w.heap.size 5 1 v n (cB (pre.flatMap prtI ++ prtI x))) (hb : Below w.heap.size w W) (hx : OkIt x) (hn : (pre.flatMap prtI).length ≤ 5 * pre.length) : PrtI w (pre ++ [x]) W := by
  have he : (pre ++ [x]).flatMap prtI = pre.flatMap prtI ++ prtI x := by simp
  have hl : n = (pre.flatMap prtI ++ prtI x).length := by have := hr.1; rw [cB_len] at this; omega
  subst hl
  refine ⟨⟨v, hv, by rw [he]; exact hr⟩, hb, ?_⟩
  rw [he, List.length_append, List.length_append, List.length_singleton]
  have := prtI_len x hx
  omega
theorem str_back {w : World} {B n : Nat} {v : Value} {l : List UInt8} (h : w.ownsRow B 5 1 v n (cB l)) : (convert 24 9 v).run Tryd.prog w = .ok (.string ⟨l.toArray⟩) w := by
  have hl : n = l.length := by have := h.1; rw [cB_len] at this; omega
  subst hl
  rcases h.2 with ⟨rfl, h0⟩ | ⟨g, cap, cur, rfl, _⟩
  · obtain rfl : l = [] := List.eq_nil_of_length_eq_zero h0
    rw [run_convert_bytes_string w 24 9 5 none 0 0 Tryd.underlying24 Tryd.underlying5 Tryd.underlying9]
    rfl
  · refine run_convert_bytes_back w 24 9 5 ⟨g, 0, none⟩ cap l Tryd.underlying24 Tryd.underlying5 Tryd.underlying9 fun j hj => ?_
    exact h.cells (g := g) rfl j _ (cB_at l j _ (List.getElem?_eq_getElem hj))
set_option maxRecDepth 100000 in
set_option maxHeartbeats 2000000 in
theorem print_bad (v : Value) (l : List (List Int)) (w : World) (h : RL w v l) (hl : Sz l) (hb : chkV l = 150) :
    Calls Tryd.prog 21 #[v] w fun e w' => e = .returned (.tuple #[.string ⟨#[]⟩, .int .i64 150]) ∧ Below w.heap.size w w' := by
  have HK := Lib.hid (check_any v l w h hl.1 hl.2)
  rw [hb] at HK
  obtain ⟨A, c, rfl⟩ := h.form
  obtain ⟨n, hn⟩ : ∃ n, n = l.length := ⟨_, rfl⟩
  rw [← hn] at HK ⊢
  clear h hl hb hn
  go_enter Tryd.func21, Tryd.ntmps21
  go_wp2_with (go_at_call 23; refine HK.out.mono ?_; rintro e w1 ⟨rfl, hb1⟩)
  go_ret2
  exact ⟨rfl, hb1⟩
set_option maxRecDepth 100000 in
set_option maxHeartbeats 2000000 in
theorem print_ok (v : Value) (l : List (List Int)) (w : World) (h : RL w v l) (hi : isBad l = false) (ht : Tab w) :
    Calls Tryd.prog 21 #[v] w fun e w' => e = .returned (.tuple #[.string ⟨(prtL l).toArray⟩, .int .i64 0]) ∧ Below w.heap.size w w' := by
  obtain ⟨hn1, hn2, _⟩ := bad_no hi
  have hc0 : chkV l = 0 := by unfold chkV; rw [hi]; rfl
  have HK := Lib.hid (check_any v l w h (by omega) (fun p hp => by have := hn2 p hp; omega))
  rw [hc0] at HK
  have HL := Lib.hid h
  obtain ⟨A, c, rfl⟩ := h.form
  obtain ⟨n, hn⟩ : ∃ n, n = l.length := ⟨_, rfl⟩
  rw [← hn] at HK HL hn1 ⊢
  have H2 := Lib.hid hn2
  have Hn := Lib.hid hn
  have HT := Lib.hid ht
  clear h hn2 hn hc0 ht hi
  obtain ⟨i0, hi0, hz0, hz1, hz2⟩ := info_parts infoB
  refine (callsIn_wide (n := 3)).1 ?_
  refine callsIn_of_wp_marks Tryd.func21 rfl trivial ?_ rfl
  simp only [Tryd.ntmps21, List.size_toArray, List.length_cons, List.length_nil, Nat.reduceAdd, Nat.reduceSub, Array.replicate_succ, Array.replicate_zero, List.push_toArray, List.append_toArray, List.nil_append, List.cons_append]
  gi_wp2_with fail
  refine ⟨trivial, (callsIn_wide.2 HK.out).mono ?_⟩
  rintro e w1 ⟨rfl, hb1⟩
  gi_wp2_with fail
  refine ⟨trivial, (parts_in _ _ _ _ _).mono ?_⟩
  rintro e w2 ⟨rfl, rfl⟩
  have bO := Boxed.new w1 24 (.slice none 0 0)
  have bS := Boxed.new (w1.alloc (.cells #[.slice none 0 0] 24)) 22 (.slice A n c)
  rw [World.size_alloc] at bS
  have hB0 : Below w1.heap.size w1 ((w1.alloc (.cells #[.slice none 0 0] 24)).alloc (.cells #[.slice A n c] 22)) := up (below_box _ _) (below_box _ _)
  have HbO := Lib.hid bO; clear bO
  have HbS := Lib.hid bS; clear bS
  have HB0 := Lib.hid hB0; clear hB0
  gi_wp2_with fail
  refine range_gen encIt OkIt (gf := 66) (lb := #[.pointer (some ⟨w1.heap.size + 1, 0, none⟩)]) rfl (enters_of Tryd.func66 (by kernel_rfl) rfl) (Below w1.heap.size) (fun _ _ _ h k => h.trans k)
    (fun W l o o' hl ho hc => (Below.refl _ W).grown (grownBy_putObj' W l o') (by simp at hl; have := (Array.getElem?_eq_some_iff.1 ho).1; omega) (fun k e => by cases e; simp at hl; omega))
    (itemsL 0 l) 96 (fun _ => rfl) ?hit (PrtI w1)
    (fun _ _ _ h hb => h.keep hb) (fun _ _ _ _ o' h hl ha ho => h.put o' (by simp at hl; omega) ha ho) ?h0
    (fun x => { tmps := #[.slice A n c, undef, .string ⟨#[]⟩, .int .i64 0, .int .i64 0, .pointer (some ⟨w1.heap.size, 0, none⟩), .string ⟨x.1.toArray⟩, .int .i64 x.2, .slice A n c, .int .i64 0, .int .i64 0, .bool false, undef, .slice A n c, .func (.func 66) #[] #[.pointer (some ⟨w1.heap.size + 1, 0, none⟩)], .string ⟨x.1.toArray⟩, .int .i64 x.2, undef, undef, undef, undef, undef, undef, undef, undef, undef, undef], defers := [] }) ?assign ?body ?done
  case hit =>
    intro l' J W hb hJ hY h0
    refine iter_in _ l' (w1.heap.size + 1) (.slice A n c) l w1 (HL.out.keep hb1) (by rw [← Hn.out]; omega) (fun p hp => by have := H2.out p hp; omega) OkIt ?_ 96 ?_ (Below w1.heap.size) (fun A B k h => h.trans k) J hJ hY W (up HB0.out hb) ((hb.block _ (HbS.out).lt).trans HbS.out) h0
    · rintro x ⟨p, hp, hz⟩ ⟨i, j, e⟩
      have := (H2.out p hp).2.2 x.2 hz
      refine ⟨?_, this⟩
      rw [e]; unfold sepL
      split
      · simp
      · split <;> simp
    · have := itemsL_len 0 l 6 (fun p hp => (H2.out p hp).2.1)
      rw [← Hn.out] at this
      omega
  case h0 => exact ⟨⟨_, (HbO.out).alloc _, World.ownsRow_nil _ _ _ _⟩, HB0.out, by simp⟩
  case assign =>
    intro l' x W K hK
    obtain ⟨xs, xz⟩ := x
    dsimp only [encIt]
    gi_wp2
    exact hK
  case body =>
    rintro l' pre x W ⟨⟨v, hv, hr⟩, hb, hlen⟩ hx hp
    obtain ⟨xs, xz⟩ := x
    dsimp only
    have hc := hv.cell
    have Hv := Lib.hid hv; clear hv
    have Hr := Lib.hid hr; clear hr
    have Hx := Lib.hid hx; clear hx
    have hxl := Hx.out.1
    dsimp only at hxl
    have hs1 : (pre.flatMap prtI).length + (⟨xs.toArray⟩ : ByteArray).size ≤ 1000 := by
      rw [show (⟨xs.toArray⟩ : ByteArray).size = xs.length from by simp [ByteArray.size]]
      omega
    by_cases hz : xz = -1
    · subst hz
      gi_wp2_with (gi_at_builtin; refine wpListIn_appS _ rfl _ _ 24 9 rfl w1.heap.size 5 i0 Tryd.underlying24 Tryd.underlying9 hi0 hz0 hz1 hz2 v _ _ rfl Hr.out ⟨xs.toArray⟩ rfl (by unfold maxLen; omega) (by omega) hb.size ?_; intro v' w3 hown' hgrow; refine Hid.out ?_)
      refine Lib.hid ?_
      rw [strCells_cB, ← cB_append] at hown'
      generalize hm1 : (pre.flatMap prtI).length + ByteArray.size ⟨xs.toArray⟩ = m1 at hown' hs1
      obtain ⟨g1, g2, g3, g4, g5⟩ := boxed_row Hv.out hown' (others_grown Hr.out hgrow) ((Below.refl _ _).grown hgrow hb.size (fun k hk => (Hr.out.lt k hk).1))
      obtain ⟨A', c', hsh, _, _⟩ := own_slice hown'
      subst hsh
      have c1 := g1.cell
      have f1 := g1.frozen
      have G := Lib.hid (And.intro g2 (And.intro g3 (And.intro g4 g5)))
      clear g1 g2 g3 g4 g5 hown' hgrow hm1
      gi_wp2
      refine ⟨fun k o _ h1 h2 => G.out.2.2.2 k o h1 h2, G.out.2.2.1, PrtI.snoc (n := m1) G.out.1 ?_ (hb.trans G.out.2.2.1) Hx.out hlen⟩
      have e : prtI (xs, -1) = xs := by simp [prtI]
      rw [e]
      exact G.out.2.1
    · have hne : (xz != -1) = true := by simp [hz]
      gi_wp2_with (gi_at_builtin; refine wpListIn_appS _ rfl _ _ 24 9 rfl w1.heap.size 5 i0 Tryd.underlying24 Tryd.underlying9 hi0 hz0 hz1 hz2 v _ _ rfl Hr.out ⟨xs.toArray⟩ rfl (by unfold maxLen; omega) (by omega) hb.size ?_; intro v' w3 hown' hgrow; refine Hid.out ?_)
      refine Lib.hid ?_
      rw [strCells_cB, ← cB_append] at hown'
      generalize hm1 : (pre.flatMap prtI).length + ByteArray.size ⟨xs.toArray⟩ = m1 at hown' hs1
      obtain ⟨g1, g2, g3, g4, g5⟩ := boxed_row Hv.out hown' (others_grown Hr.out hgrow) ((Below.refl _ _).grown hgrow hb.size (fun k hk => (Hr.out.lt k hk).1))
      obtain ⟨A', c', hsh, _, _⟩ := own_slice hown'
      subst hsh
      have c1 := g1.cell
      have f1 := g1.frozen
      have c2 := g2.cell
      have G := Lib.hid (And.intro g2 (And.intro g3 (And.intro g4 g5)))
      clear g1 g2 g3 g4 g5 hown' hgrow hm1
      gi_wp2_with fail
      have hB4 := G.out.2.2.1.size
      have hs4 : w1.heap.size ≤ (w3.setCell ⟨w1.heap.size, 0, none⟩ (.slice A' m1 c')).heap.size := Nat.le_trans hb.size hB4
      refine ⟨trivial, (CallsIn.inRound l' ((callsIn_wide (n := 0)).2 (Tryd.strconv_AppendInt_10 w1.heap.size m1 xz (by have := Hx.out.2.1; dsimp only at this; omega) (by have := Hx.out.2.2; dsimp only at this; omega) _ _ _ G.out.2.1 hs4 (by omega) ((HT.out.keep hb1).on (hb.trans G.out.2.2.1))))).mono ?_⟩
      rintro e w5 ⟨v5, rfl, hown5, hb5, hk5⟩
      have hown6 : w5.ownsRow w1.heap.size 5 1 v5 (m1 + (Lib.itoa xz).length) (cB (pre.flatMap prtI ++ prtI (xs, xz))) := by
        have e : prtI (xs, xz) = xs ++ Lib.itoa xz := by unfold prtI; rw [if_neg hz]
        rw [e, ← List.append_assoc, cB_append]
        exact hown5
      obtain ⟨g1, g2, g3, g4, g5⟩ := boxed_row G.out.1 hown6 hk5 hb5
      generalize hm2 : m1 + (Lib.itoa xz).length = m2 at hown6 g3
      obtain ⟨A6, c6, hsh, _, _⟩ := own_slice hown6
      subst hsh
      have c7 := g1.cell
      have f7 := g1.frozen
      have G6 := Lib.hid (And.intro g2 (And.intro g3 (And.intro g4 g5)))
      clear g1 g2 g3 g4 g5 hown5 hown6 hm2 hk5 hb5
      gi_wp2
      exact ⟨fun k o _ h1 h2 => G6.out.2.2.2 k o (G.out.2.2.2 k o h1 h2) h2, G.out.2.2.1.trans G6.out.2.2.1, PrtI.snoc (n := m2) G6.out.1 G6.out.2.1 (hb.trans (G.out.2.2.1.trans G6.out.2.2.1)) Hx.out hlen⟩
  case done =>
    rintro D W hD ⟨⟨v, hv, hr⟩, hb, hlen⟩ hK
    have hc := hv.cell
    have hcv := str_back hr
    have Hr := Lib.hid hr; clear hr
    have Hv := Lib.hid hv; clear hv
    gi_wp2
    refine ⟨by simp, .inl ⟨_, _, rfl, run_takeDeferred hK, ?_⟩⟩
    exact ⟨_, results_tmp2 rfl _ _ _, rfl, up hb1 (hb.trans ((Below.refl _ W).grown (grownBy_putObj' W D _) hb.size (fun k e => by cases e; simp at hD; omega)))⟩
theorem print_any (v : Value) (l : List (List Int)) (w : World) (h : RL w v l) (hl : Sz l) (ht : Tab w) :
    Calls Tryd.prog 21 #[v] w fun e w' => e = .returned (.tuple #[.string (prtV l), .int .i64 (chkV l)]) ∧ Below w.heap.size w w' := by
  rcases bad_cases l with ⟨hb, hi⟩ | ⟨hb, hi⟩
  · rw [prtV, if_pos hi, hb]; exact print_bad v l w h hl hb
  · rw [prtV, if_neg (by rw [hi]; decide), hb]; exact print_ok v l w h hi ht
end Go.Proofs.YteepfecplabinaaDoor.Par

namespace Go.Proofs.YteepfecplabinaaDoor.Par
open Go.RowKit Utf

def Okp (p : List Int) : Prop := 1 ≤ p.length ∧ p.length ≤ 6 ∧ ∀ z ∈ p, -1 ≤ z ∧ z ≤ 9999
def OkL (o : List (List Int)) : Prop := o.length ≤ 16 ∧ ∀ p ∈ o, Okp p
def shut (o : List (List Int)) : List (List Int) := if o = [[-1]] then [] else o
def num (z : Int) : List UInt8 := if z = -1 then [] else Lib.itoa z
theorem okL_bad {o : List (List Int)} (h : OkL o) (hne : o ≠ [[-1]]) : isBad o = false := by
  unfold isBad
  simp only [Bool.or_eq_false_iff, decide_eq_false_iff_not, List.any_eq_false]
  refine ⟨⟨by have := h.1; omega, fun p hp => ?_⟩, hne⟩
  obtain ⟨h1, h2, h3⟩ := h.2 p hp
  unfold wrongP
  simp only [Bool.or_eq_true, decide_eq_true_eq, not_or, List.any_eq_true, not_exists, not_and]
  refine ⟨⟨by omega, by omega⟩, fun z hz => ?_⟩
  have := h3 z hz
  unfold wrongI
  simp only [Bool.or_eq_true, decide_eq_true_eq, not_or]
  omega
theorem okL_of {o : List (List Int)} (h : isBad o = false) : OkL o := ⟨(bad_no h).1, (bad_no h).2.1⟩
theorem shut_good {o : List (List Int)} (h : OkL o) : isBad (shut o) = false := by
  unfold shut
  split
  · decide
  · exact okL_bad h (by assumption)
theorem shut_open {o : List (List Int)} (h : o ≠ []) : opened (shut o) = o := by
  by_cases e : o = [[-1]]
  · subst e; rfl
  · unfold shut opened
    rw [if_neg e, if_neg h]
theorem runV_append {l l' : List (List Int)} {a b : List UInt8} (h : runV l a = (l', 0)) : runV l (a ++ b) = runV l' b := by
  induction a generalizing l with
  | nil => simp [runV] at h; subst h; rfl
  | cons c a ih =>
    rw [List.cons_append, runV]
    rw [runV] at h
    split at h
    · rw [if_pos (by assumption)]; exact ih h
    · exact absurd (congrArg Prod.snd h) (by assumption)
theorem stp_digit {ls : List (List Int)} {ps : List Int} {y : Int} {c : UInt8} (h : OkL (ls ++ [ps ++ [y]])) (h1 : 48 ≤ c.toNat) (h2 : c.toNat ≤ 57) : stpV (shut (ls ++ [ps ++ [y]])) c = (ls ++ [ps ++ [digI y ((c.toNat : Int) - 48)]], 0) := by
  unfold stpV
  rw [shut_good h, if_neg (by decide), if_pos ⟨h1, h2⟩, shut_open (by simp)]
  simp [digL, digP]
theorem stp_colon {ls : List (List Int)} {p : List Int} (h : OkL (ls ++ [p])) (hp : p.length < 6) : stpV (shut (ls ++ [p])) 58 = (ls ++ [p ++ [-1]], 0) := by
  unfold stpV
  rw [shut_good h, if_neg (by decide), if_neg (by decide), if_pos (by decide), shut_open (by simp), if_neg (by simp; omega)]
  simp [parP]
theorem stp_semi {ls : List (List Int)} (h : OkL ls) (hne : ls ≠ []) (hp : ls.length < 16) : stpV (shut ls) 59 = (ls ++ [[-1]], 0) := by
  unfold stpV
  rw [shut_good h, if_neg (by decide), if_neg (by decide), if_neg (by decide), if_pos (by decide), shut_open hne, if_neg (by omega)]
theorem shut_big {o : List (List Int)} (h : o ≠ [[-1]]) : shut o = o := by unfold shut; rw [if_neg h]
theorem ok_last {ls : List (List Int)} {ps : List Int} {y z : Int} (h : OkL (ls ++ [ps ++ [y]])) (hz : -1 ≤ z ∧ z ≤ 9999) : OkL (ls ++ [ps ++ [z]]) := by
  refine ⟨by have := h.1; simpa using this, fun p hp => ?_⟩
  rcases List.mem_append.1 hp with hp | hp
  · exact h.2 p (by simp [hp])
  · simp at hp; subst hp
    obtain ⟨_, h2, h3⟩ := h.2 (ps ++ [y]) (by simp)
    refine ⟨by simp, by simpa using h2, fun x hx => ?_⟩
    rcases List.mem_append.1 hx with hx | hx
    · exact h3 x (by simp [hx])
    · simp at hx; subst hx; exact hz
theorem ne_one {ls : List (List Int)} {ps : List Int} {z : Int} (hz : z ≠ -1) : ls ++ [ps ++ [z]] ≠ [[-1]] := by
  intro e
  have := congrArg (fun l => (l.getLastD []).getLastD 0) e
  simp at this
  exact hz this
theorem run_digits (u : Nat) (hu : u ≤ 9999) (ls : List (List Int)) (ps : List Int) (h : OkL (ls ++ [ps ++ [-1]])) : runV (shut (ls ++ [ps ++ [-1]])) (Lib.decDigits u) = (ls ++ [ps ++ [(u : Int)]], 0) := by
  induction u using Nat.strongRecOn with
  | _ u ih =>
    by_cases hs : u < 10
    · rw [Lib.decDigits, dif_pos hs, runV]
      have hc : (UInt8.ofNat (48 + u)).toNat = 48 + u := by rw [UInt8.toNat_ofNat']; omega
      rw [stp_digit h (by rw [hc]; omega) (by rw [hc]; omega), hc]
      rw [if_pos rfl, runV]
      have : digI (-1) (((48 + u : Nat) : Int) - 48) = (u : Int) := by unfold digI; omega
      rw [this]
    · rw [Lib.decDigits, dif_neg hs]
      have ih' := ih (u / 10) (by omega) (by omega)
      rw [runV_append ih', runV]
      have hc : (UInt8.ofNat (48 + u % 10)).toNat = 48 + u % 10 := by rw [UInt8.toNat_ofNat']; omega
      have hk : OkL (ls ++ [ps ++ [((u / 10 : Nat) : Int)]]) := ok_last h (by omega)
      have e : shut (ls ++ [ps ++ [((u / 10 : Nat) : Int)]]) = ls ++ [ps ++ [((u / 10 : Nat) : Int)]] := shut_big (ne_one (by omega))
      have := stp_digit (c := UInt8.ofNat (48 + u % 10)) hk (by rw [hc]; omega) (by rw [hc]; omega)
      rw [e, hc] at this
      rw [this, if_pos rfl, runV]
      have : digI ((u / 10 : Nat) : Int) (((48 + u % 10 : Nat) : Int) - 48) = (u : Int) := by unfold digI; omega
      rw [this]
theorem run_num (z : Int) (hz : -1 ≤ z ∧ z ≤ 9999) (ls : List (List Int)) (ps : List Int) (h : OkL (ls ++ [ps ++ [-1]])) : runV (shut (ls ++ [ps ++ [-1]])) (num z) = (shut (ls ++ [ps ++ [z]]), 0) := by
  unfold num
  split
  · rename_i e; subst e; rfl
  · rename_i e
    unfold Lib.itoa
    rw [if_neg (by omega)]
    have := run_digits z.toNat (by omega) ls ps h
    rw [this, shut_big (ne_one e), show ((z.toNat : Nat) : Int) = z by omega]
theorem ok_parts {ls : List (List Int)} {p q : List Int} (h : OkL (ls ++ [p])) (hq : Okp q) : OkL (ls ++ [q]) := by
  refine ⟨by have := h.1; simpa using this, fun x hx => ?_⟩
  rcases List.mem_append.1 hx with hx | hx
  · exact h.2 x (by simp [hx])
  · simp at hx; subst hx; exact hq
theorem okp_app {p : List Int} {z : Int} (h : Okp p) (hl : p.length < 6) (hz : -1 ≤ z ∧ z ≤ 9999) : Okp (p ++ [z]) := by
  refine ⟨by simp, by simp; omega, fun x hx => ?_⟩
  rcases List.mem_append.1 hx with hx | hx
  · exact h.2.2 x hx
  · simp at hx; subst hx; exact hz
theorem run_parts (i : Nat) (r : List Int) (hr : ∀ z ∈ r, -1 ≤ z ∧ z ≤ 9999) (j : Nat) (hj : 0 < j) (ls : List (List Int)) (ps : List Int) (h : OkL (ls ++ [ps])) (hl : ps.length + r.length ≤ 6) :
    runV (shut (ls ++ [ps])) ((itemsP i j r).flatMap prtI) = (shut (ls ++ [ps ++ r]), 0) := by
  induction r generalizing j ps with
  | nil => rw [List.append_nil]; rfl
  | cons z r ih =>
    rw [itemsP, List.flatMap_cons]
    have hz := hr z (by simp)
    simp only [List.length_cons] at hl
    have e : prtI (sepL i j, z) = [58] ++ num z := by
      unfold prtI num sepL
      rw [if_pos hj]
    have hp := h.2 ps (by simp)
    have k1 : OkL (ls ++ [ps ++ [-1]]) := ok_parts h (okp_app hp (by omega) (by omega))
    have s1 : runV (shut (ls ++ [ps])) [58] = (ls ++ [ps ++ [-1]], 0) := by
      rw [runV, stp_colon h (by omega), if_pos rfl]; rfl
    have hb : ls ++ [ps ++ [-1]] ≠ [[-1]] := by
      intro e
      have h1 := congrArg List.length e
      simp at h1
      subst h1
      have h2 := hp.1
      simp at e
      rw [e] at h2; simp at h2
    rw [← shut_big hb] at s1
    have s2 := run_num z hz ls ps k1
    rw [e, List.append_assoc, runV_append s1, runV_append s2]
    have k2 : OkL (ls ++ [ps ++ [z]]) := ok_parts h (okp_app hp (by omega) hz)
    have := ih (fun x hx => hr x (by simp [hx])) (j + 1) (by omega) (ps ++ [z]) k2 (by simp; omega)
    rw [this, List.append_assoc]; rfl
theorem run_param (i : Nat) (hi : 0 < i) (p : List Int) (hp : Okp p) (ls : List (List Int)) (h : OkL ls) (hne : ls ≠ []) (hl : ls.length < 16) :
    runV (shut ls) ((itemsP i 0 p).flatMap prtI) = (shut (ls ++ [p]), 0) := by
  cases p with
  | nil => have := hp.1; simp at this
  | cons z r =>
    have hz := hp.2.2 z (by simp)
    rw [itemsP, List.flatMap_cons]
    have e : prtI (sepL i 0, z) = [59] ++ num z := by
      unfold prtI num sepL
      rw [if_neg (by omega), if_pos hi]
    have s1 : runV (shut ls) [59] = (ls ++ [[-1]], 0) := by
      rw [runV, stp_semi h hne hl, if_pos rfl]; rfl
    have hb : ls ++ [[] ++ [-1]] ≠ [[-1]] := by
      intro e
      have h1 := congrArg List.length e
      simp at h1
      exact hne h1
    have k0 : ∀ y : Int, -1 ≤ y ∧ y ≤ 9999 → OkL (ls ++ [[] ++ [y]]) := fun y hy => ⟨by simp; omega, fun x hx => by
      rcases List.mem_append.1 hx with hx | hx
      · exact h.2 x hx
      · simp at hx; subst hx; exact ⟨by simp, by simp, fun u hu => by simp at hu; subst hu; exact hy⟩⟩
    have s1' : runV (shut ls) [59] = (shut (ls ++ [[] ++ [-1]]), 0) := by rw [shut_big hb]; exact s1
    have s2 := run_num z hz ls [] (k0 (-1) (by omega))
    rw [e, List.append_assoc, runV_append s1', runV_append s2]
    have := run_parts i r (fun x hx => hp.2.2 x (by simp [hx])) 1 (by omega) ls ([] ++ [z]) (k0 z hz) (by have := hp.2.1; simp at this ⊢; omega)
    rw [this]; rfl
theorem run_first (p : List Int) (hp : Okp p) : runV [] ((itemsP 0 0 p).flatMap prtI) = (shut [p], 0) := by
  cases p with
  | nil => have := hp.1; simp at this
  | cons z r =>
    have hz := hp.2.2 z (by simp)
    rw [itemsP, List.flatMap_cons]
    have e : prtI (sepL 0 0, z) = num z := by
      unfold prtI num sepL
      rw [if_neg (by omega), if_neg (by omega)]; rfl
    have k0 : ∀ y : Int, -1 ≤ y ∧ y ≤ 9999 → OkL ([] ++ [[] ++ [y]]) := fun y hy => ⟨by simp, fun x hx => by
      simp at hx; subst hx; exact ⟨by simp, by simp, fun u hu => by simp at hu; subst hu; exact hy⟩⟩
    have s2 := run_num z hz [] [] (k0 (-1) (by omega))
    have e0 : shut ([] ++ [[] ++ [-1]]) = [] := by decide
    rw [e0] at s2
    rw [e, runV_append s2]
    have := run_parts 0 r (fun x hx => hp.2.2 x (by simp [hx])) 1 (by omega) [] ([] ++ [z]) (k0 z hz) (by have := hp.2.1; simp at this ⊢; omega)
    rw [this]; rfl
theorem run_rest (i : Nat) (hi : 0 < i) (r : List (List Int)) (hr : ∀ p ∈ r, Okp p) (ls : List (List Int)) (h : OkL ls) (hne : ls ≠ []) (hl : ls.length + r.length ≤ 16) :
    runV (shut ls) ((itemsL i r).flatMap prtI) = (shut (ls ++ r), 0) := by
  induction r generalizing i ls with
  | nil => rw [List.append_nil]; rfl
  | cons p r ih =>
    have hp := hr p (by simp)
    simp only [List.length_cons] at hl
    rw [itemsL, List.flatMap_append, runV_append (run_param i hi p hp ls h hne (by omega))]
    have k : OkL (ls ++ [p]) := ⟨by simp; omega, fun x hx => by
      rcases List.mem_append.1 hx with hx | hx
      · exact h.2 x hx
      · simp at hx; subst hx; exact hp⟩
    have := ih (i + 1) (by omega) (fun q hq => hr q (by simp [hq])) (ls ++ [p]) k (by simp) (by simp; omega)
    rw [this, List.append_assoc]; rfl
theorem run_print (l : List (List Int)) (h : isBad l = false) : runV [] (prtL l) = (l, 0) := by
  have hk := okL_of h
  unfold prtL
  cases l with
  | nil => rfl
  | cons p r =>
    have hp := hk.2 p (by simp)
    have hl := hk.1
    simp only [List.length_cons] at hl
    rw [itemsL, List.flatMap_append, runV_append (run_first p hp)]
    have := run_rest (0 + 1) (by omega) r (fun q hq => hk.2 q (by simp [hq])) [p] ⟨by simp, fun x hx => by simp at hx; subst hx; exact hp⟩ (by simp) (by simp; omega)
    rw [this]
    rw [shut_big (by intro e; have := (bad_no h).2.2; exact this e)]; rfl
theorem flat_le {α β : Type} (f : α → List β) (m : Nat) : ∀ l : List α, (∀ x ∈ l, (f x).length ≤ m) → (l.flatMap f).length ≤ m * l.length
  | [], _ => by simp
  | x :: r, h => by
    have h1 := h x (by simp)
    have h2 := flat_le f m r (fun y hy => h y (by simp [hy]))
    rw [List.flatMap_cons, List.length_append, List.length_cons, Nat.mul_succ]
    omega
theorem itemsP_in (i : Nat) (p : List Int) (hp : ∀ z ∈ p, -1 ≤ z ∧ z ≤ 9999) (j : Nat) : ∀ x ∈ itemsP i j p, OkIt x := by
  induction p generalizing j with
  | nil => simp [itemsP]
  | cons z r ih =>
    intro x hx
    rw [itemsP, List.mem_cons] at hx
    rcases hx with rfl | hx
    · refine ⟨?_, hp z (by simp)⟩
      unfold sepL
      split
      · simp
      · split <;> simp
    · exact ih (fun y hy => hp y (by simp [hy])) (j + 1) x hx
theorem itemsL_ok (i : Nat) (l : List (List Int)) (h : ∀ p ∈ l, Okp p) : ∀ x ∈ itemsL i l, OkIt x := by
  induction l generalizing i with
  | nil => simp [itemsL]
  | cons p r ih =>
    intro x hx
    rw [itemsL, List.mem_append] at hx
    rcases hx with hx | hx
    · exact itemsP_in i p (h p (by simp)).2.2 0 x hx
    · exact ih (i + 1) (fun q hq => h q (by simp [hq])) x hx
theorem prtL_len (l : List (List Int)) (h : isBad l = false) : (prtL l).length ≤ 480 := by
  have hk := okL_of h
  have h1 := flat_le prtI 5 (itemsL 0 l) (fun x hx => prtI_len x (itemsL_ok 0 l hk.2 x hx))
  have h2 := itemsL_len 0 l 6 (fun p hp => (hk.2 p hp).2.1)
  have := hk.1
  unfold prtL
  omega
theorem of_arr (l : List UInt8) : (⟨l.toArray⟩ : ByteArray).data.toList = l := by simp
/-- Parse inverts Print -/
theorem prs_prt (l : List (List Int)) (h : isBad l = false) : prsV (prtL l) = (l, 0) := by
  unfold prsV
  rw [if_neg (by have := prtL_len l h; omega)]
  exact run_print l h
theorem prt_inj {a b : List (List Int)} (ha : isBad a = false) (hb : isBad b = false) : prtL a = prtL b ↔ a = b :=
  ⟨fun e => by have h1 := prs_prt a ha; rw [e, prs_prt b hb] at h1; exact (congrArg Prod.fst h1).symm, fun e => by rw [e]⟩
theorem good_is {a : List (List Int)} (h : isBad a = false) : Sz a ∧ prtV a = ⟨(prtL a).toArray⟩ ∧ chkV a = 0 ∧ prsV (⟨(prtL a).toArray⟩ : ByteArray).data.toList = (a, 0) := by
  obtain ⟨h1, h2, _⟩ := bad_no h
  refine ⟨⟨by omega, fun p hp => by have := h2 p hp; omega⟩, by unfold prtV; rw [h]; rfl, by unfold chkV; rw [h]; rfl, ?_⟩
  rw [of_arr]; exact prs_prt a h
end Go.Proofs.YteepfecplabinaaDoor.Par
