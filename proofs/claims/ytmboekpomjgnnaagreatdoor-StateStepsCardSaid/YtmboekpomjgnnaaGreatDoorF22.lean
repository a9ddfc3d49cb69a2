/-
  StaAj
-/
import Derived.Test.YtmboekpomjgnnaaGreatDoorF15
import Derived.Test.YtmboekpomjgnnaaGreatDoorF16
import Derived.Test.YtmboekpomjgnnaaGreatDoorF21
namespace Go.Proofs.YtmboekpomjgnnaaGreatDoor.Sta
open Go.RowKit Utf Par

theorem nimp {a b : Bool} : (!a || b) = true ↔ (a = true → b = true) := by cases a <;> cases b <;> decide
theorem len0 {α : Type} (l : List α) : decide (0 < l.length) = true ↔ l ≠ [] := by cases l <;> simp
theorem toN0 (b : UInt8) : b.toNat = 0 ↔ b = 0 := ⟨fun h => UInt8.toNat_inj.1 h, fun h => by rw [h]; rfl⟩
theorem chk0 (l : List (List Int)) : chkV l = 0 ↔ isBad l = false := by
  unfold chkV; cases isBad l <;> simp
theorem good_eq {p : PS} {n : Nat} (hn : n < 15) (hst : p.st = n) (hbad : p.bad = false) : goodB n p = mayS p := by
  rw [Bool.eq_iff_iff, may_good hbad]
  have e1 : ((!sz0 p.it) = true) ↔ p.it.size ≠ 0 := by unfold sz0; simp
  have e2 : ((!sz0 p.tx) = true) ↔ p.tx.size ≠ 0 := by unfold sz0; simp
  have e3 : ((!decide (p.pr.toNat = 0)) = true) ↔ p.pr ≠ 0 := by simp [toN0]
  have e4 : ((!decide (p.fi.toNat = 0)) = true) ↔ p.fi ≠ 0 := by simp [toN0]
  unfold goodB allV okF whoB allB
  simp only [Bool.and_eq_true, nimp, e1, e2, e3, e4, decide_eq_true_eq]
  constructor
  · rintro ⟨⟨⟨⟨⟨⟨a1, a2⟩, a3⟩, a4⟩, a5⟩, a6⟩, b2, b3, b4, b5, b6, b7, b8, b9, b10⟩
    refine ⟨by omega, by omega, hbad, ?_, (chk0 _).1 b5, b7, ?_, ?_, ?_, ?_, ?_, ?_, b10, b9, ?_⟩
    · by_cases h : p.utf = []
      · exact .inl h
      · right
        have := a1 (List.length_pos_iff.2 h)
        refine ⟨?_, by omega⟩
        cases hu : p.utf with
        | nil => exact absurd hu h
        | cons x r => rw [hu] at b3; simpa using b3
    · unfold leastS
      split
      · rename_i k
        rw [if_pos (by omega)] at b2
        have := e1.1 b2
        omega
      · omega
    · unfold mostS
      by_cases h : p.it.size = 0
      · rw [h]; omega
      · have := a4 h
        rw [if_pos (by omega)]; exact b6
    · by_cases h : p.ps = []
      · exact .inl h
      · right; have := a3 (List.length_pos_iff.2 h); omega
    · intro k hps hpr
      rw [if_neg (by omega), if_pos (by omega)] at b2
      rw [hps, hpr] at b2
      simp at b2
    · by_cases h : p.pr = 0
      · exact .inl h
      · right
        have hb := b4
        rw [Bool.or_eq_true] at hb
        rcases hb with x | x
        · exact absurd ((toN0 _).1 (by simpa using x)) h
        · unfold privB at x
          simp only [Bool.and_eq_true, decide_eq_true_eq] at x
          have := a2 h
          exact ⟨x.1, x.2, by omega⟩
    · by_cases k : p.st = 11 ∨ p.st = 12
      · left
        rw [if_neg (by omega), if_neg (by omega), if_pos (by omega)] at b2
        have hf := e4.1 b2
        rw [Bool.or_eq_true] at b8
        rcases b8 with x | x
        · exact absurd ((toN0 _).1 (by simpa using x)) hf
        · unfold finlB at x
          simp only [Bool.and_eq_true, decide_eq_true_eq] at x
          exact ⟨k, x.1, by omega⟩
      · right
        refine ⟨by omega, by omega, Classical.byContradiction fun h => ?_⟩
        have := a5 h
        omega
    · by_cases h : p.tx.size = 0
      · exact .inl h
      · right; have := a6 h; omega
  · intro g
    have hlo := g.lo
    refine ⟨⟨⟨⟨⟨⟨fun h => ?_, fun h => ?_⟩, fun h => ?_⟩, fun h => ?_⟩, fun h => ?_⟩, fun h => ?_⟩, ?_, ?_, ?_, (chk0 _).2 g.ps, ?_, g.its, ?_, g.txl, g.txs⟩
    · rcases g.utf with x | ⟨_, x⟩
      · exact absurd x (List.length_pos_iff.1 h)
      · omega
    · rcases g.pr with x | ⟨_, _, x⟩
      · exact absurd x h
      · omega
    · rcases g.psn with x | x
      · exact absurd x (List.length_pos_iff.1 h)
      · omega
    · have := g.itm
      unfold mostS at this
      split at this <;> omega
    · rcases g.fi with ⟨x, _⟩ | ⟨_, _, x⟩
      · omega
      · exact absurd x h
    · have := g.txn
      rcases this with x | x
      · exact absurd x h
      · omega
    · split
      · rename_i k
        have := g.itl
        unfold leastS at this
        rw [if_pos (by omega)] at this
        exact e1.2 (by omega)
      · split
        · rename_i k
          rw [Bool.or_eq_true, e3, len0]
          by_cases h : p.ps = []
          · exact .inl (g.ent (by omega) h)
          · exact .inr h
        · split
          · rcases g.fi with ⟨_, x, _⟩ | ⟨x, y, _⟩
            · exact e4.2 (fun h => by rw [h] at x; exact absurd x (by decide))
            · omega
          · rfl
    · rcases g.utf with x | ⟨x, _⟩
      · rw [x]; rfl
      · rw [x]; simp
    · rw [Bool.or_eq_true]
      rcases g.pr with x | ⟨x, y, _⟩
      · left; simp [x]
      · right; unfold privB; simp [x, y]
    · have := g.itm
      unfold mostS at this
      split at this <;> omega
    · rw [Bool.or_eq_true]
      rcases g.fi with ⟨_, x, y⟩ | ⟨_, _, x⟩
      · right; unfold finlB; simp; omega
      · left; simp [x]
theorem bad_eq {p : PS} {n : Nat} (hst : p.st = n) (hbad : p.bad = true) : (decide (n = 2 ∨ n = 4 ∨ n = 5 ∨ n = 6 ∨ n = 7 ∨ n = 9 ∨ n = 10 ∨ n = 11 ∨ n = 12) && eqS p (spoS n)) = mayS p := by
  rw [Bool.eq_iff_iff, Bool.and_eq_true, eqS_iff, decide_eq_true_eq]
  constructor
  · rintro ⟨h1, h2⟩
    rw [h2]
    exact spo_may n (by omega)
  · intro h
    obtain ⟨e, hs⟩ := may_bad h hbad
    rw [hst] at e hs
    exact ⟨by omega, e⟩
set_option maxRecDepth 100000 in
set_option maxHeartbeats 8000000 in
theorem isValid_bad (p : PS) (n : Nat) (hn : n < 15) (hst : p.st = n) (hbad : p.bad = true) (au aq : Option Addr) (nu cu nq cq : Nat) (w : World) (hr : RS w (.slice au nu cu) (.slice aq nq cq) p) (ht : Tf w) (s2 : Kq p.ps) :
    Calls Tryz.prog 20 #[.agg (cS p (.slice au nu cu) (.slice aq nq cq))] w fun e w' => e = .returned (.bool (mayS p)) ∧ Below w.heap.size w w' := by
  rw [← bad_eq hst hbad]
  have k1 := spo_is n hn
  have HSM := Lib.hid (fun W (hb : Below w.heap.size w W) => show Calls Tryz.prog 10 #[.agg (cS p (.slice au nu cu) (.slice aq nq cq)), .agg #[.int .i64 (n : Int), .slice none 0 0, .int .u8 0, .int .u8 0, .slice none 0 0, .string ⟨#[]⟩, .string ⟨#[]⟩, .bool true]] W fun e w' => e = .returned (.bool (eqS p (spoS n))) ∧ Below W.heap.size W w' from
    same6_any p (spoS n) au none aq none nu 0 cu 0 nq 0 cq 0 W (hr.keep hb) (RS.nil W _ rfl rfl) s2)
  have hv := ht.2 n hn
  have hglt := ht.1
  generalize eqS p (spoS n) = s at HSM ⊢
  generalize decide (n = 2 ∨ n = 4 ∨ n = 5 ∨ n = 6 ∨ n = 7 ∨ n = 9 ∨ n = 10 ∨ n = 11 ∨ n = 12) = t at k1 ⊢
  generalize fld n = V at k1 hv
  obtain ⟨st, utf, pr, fi, pp, it, tx, bad⟩ := p
  dsimp only at hst hbad
  subst hst; subst hbad
  unfold cS at *
  dsimp only at *
  generalize pr.toNat = x at *
  generalize fi.toNat = y at *
  clear hr s2
  have i1 : (0 : Int) ≤ (n : Int) := by omega
  have i2 : (n : Int) < 15 := by omega
  have hb1 : Below w.heap.size w (w.alloc (.cells #[.int .i64 (n : Int), .slice au nu cu, .int .u8 (x : Int), .int .u8 (y : Int), .slice aq nq cq, .string it, .string tx, .bool true] 25)) := below_box _ _
  have hv1 := (hb1.cell (p := ⟨0, n, none⟩) hglt).trans hv
  have HB1 := Lib.hid hb1
  clear hv hb1
  cases t
  all_goals
    go_enter Tryz.func20, Tryz.ntmps20
    go_wp2_with (go_at_call 10; refine (HSM.out _ HB1.out).mono ?_; rintro e w' ⟨rfl, hb'⟩; have HB' := Lib.hid (up HB1.out hb'))
    go_ret
    first
      | exact ⟨rfl, HB'.out⟩
      | exact ⟨rfl, HB1.out⟩
set_option maxRecDepth 100000 in
set_option maxHeartbeats 8000000 in
theorem check6_all (p : PS) (au aq : Option Addr) (nu cu nq cq : Nat) (w : World) (hr : RS w (.slice au nu cu) (.slice aq nq cq) p) (hm : Mk w) (ht : Tf w)
    (s1 : p.utf.length ≤ 1000000) (s2 : Kq p.ps) (s3 : p.it.size ≤ 1000000) (s4 : p.tx.size ≤ 1000000) :
    Calls Tryz.prog 8 #[.agg (cS p (.slice au nu cu) (.slice aq nq cq))] w fun e w' => e = .returned (.int .i64 (if mayS p = true then 0 else 160)) ∧ Below w.heap.size w w' := by
  have hx := below_box w (.cells (cS p (.slice au nu cu) (.slice aq nq cq)) 25)
  by_cases h0 : p.st < 0
  · have hf : mayS p = false := by unfold mayS; rw [if_pos (.inl h0)]
    rw [hf, if_neg (by decide)]
    have d1 : decide (p.st < 0) = true := decide_eq_true h0
    unfold cS
    go_enter Tryz.func8, Tryz.ntmps8
    go_wp2
    go_ret
    exact ⟨rfl, hx⟩
  · have d1 : decide (p.st < 0) = false := decide_eq_false h0
    by_cases h1 : 15 ≤ p.st
    · have hf : mayS p = false := by unfold mayS; rw [if_pos (.inr h1)]
      rw [hf, if_neg (by decide)]
      have d2 : decide ((15 : Int) ≤ p.st) = true := decide_eq_true h1
      unfold cS
      go_enter Tryz.func8, Tryz.ntmps8
      go_wp2
      go_ret
      exact ⟨rfl, hx⟩
    · have d2 : decide ((15 : Int) ≤ p.st) = false := decide_eq_false h1
      obtain ⟨n, hn⟩ : ∃ n : Nat, p.st = n := ⟨p.st.toNat, by omega⟩
      have HV := Lib.hid (show Calls Tryz.prog 20 #[.agg (cS p (.slice au nu cu) (.slice aq nq cq))] (w.alloc (.cells (cS p (.slice au nu cu) (.slice aq nq cq)) 25)) fun e w' => e = .returned (.bool (mayS p)) ∧ Below (w.alloc (.cells (cS p (.slice au nu cu) (.slice aq nq cq)) 25)).heap.size (w.alloc (.cells (cS p (.slice au nu cu) (.slice aq nq cq)) 25)) w' from by
        cases hb : p.bad with
        | true => exact isValid_bad p n (by omega) hn hb au aq nu cu nq cq _ (hr.keep hx) (ht.keep hx) s2
        | false =>
          rw [← good_eq (by omega) hn hb]
          by_cases h4 : decide (p.pr.toNat = 0) = true
          · exact isValid_good0 p n (by omega) hn hb h4 au aq nu cu nq cq _ (hr.keep hx) (hm.keep hx) (ht.keep hx) s1 s2 s3 s4
          · exact isValid_good1 p n (by omega) hn hb (by simpa using h4) au aq nu cu nq cq _ (hr.keep hx) (hm.keep hx) (ht.keep hx) s1 s2 s3 s4)
      have HX := Lib.hid hx
      generalize mayS p = t at HV ⊢
      clear hx hr s1 s2 s3 s4 h0 h1 hn hm ht
      unfold cS at *
      cases t
      all_goals
        go_enter Tryz.func8, Tryz.ntmps8
        go_wp2_with (go_at_call 20; refine HV.out.mono ?_; rintro e w' ⟨rfl, hb'⟩; have HB' := Lib.hid (up HX.out hb'); clear hb')
        go_ret
        exact ⟨rfl, HB'.out⟩
theorem check6_any (p : PS) (au aq : Option Addr) (nu cu nq cq : Nat) (w : World) (hr : RS w (.slice au nu cu) (.slice aq nq cq) p) (hm : Mk w) (ht : Tf w) (_ : -100000 ≤ p.st ∧ p.st ≤ 100000)
    (s1 : p.utf.length ≤ 1000000) (s2 : Kq p.ps) (s3 : p.it.size ≤ 1000000) (s4 : p.tx.size ≤ 1000000) :
    Calls Tryz.prog 8 #[.agg (cS p (.slice au nu cu) (.slice aq nq cq))] w fun e w' => e = .returned (.int .i64 (if mayS p = true then 0 else 160)) ∧ Below w.heap.size w w' := check6_all p au aq nu cu nq cq w hr hm ht s1 s2 s3 s4
end Go.Proofs.YtmboekpomjgnnaaGreatDoor.Sta
namespace Go.Proofs.YtmboekpomjgnnaaGreatDoor.Sta
open Go.RowKit Utf Par

/-- where a slice lies, if anywhere -/
def LX (X : Nat → Prop) (v : Value) : Prop := ∀ ad n c, v = .slice (some ad) n c → 0 < n → X ad.block
/-- a parse's slices, and where they lie -/
def PX (X : Nat → Prop) (w : World) (u q : Value) (p : PS) : Prop := RS w u q p ∧ LX X u ∧ LX X q ∧ PL (LX X) w q
def EX (X : Nat → Prop) (w : World) (xs : List EQ) : Prop := ∀ x ∈ xs, RL w (.slice x.A x.n x.c) x.e.ps ∧ LX X (.slice x.A x.n x.c) ∧ PL (LX X) w (.slice x.A x.n x.c)
theorem PX.keep {X : Nat → Prop} {w w' : World} {u q : Value} {p : PS} (h : PX X w u q p) (hb : Below w.heap.size w w') : PX X w' u q p := ⟨h.1.keep hb, h.2.1, h.2.2.1, h.2.2.2.keep h.1.2 hb⟩
theorem EX.keep {X : Nat → Prop} {w w' : World} {xs : List EQ} (h : EX X w xs) (hb : Below w.heap.size w w') : EX X w' xs := fun x hx => ⟨(h x hx).1.keep hb, (h x hx).2.1, (h x hx).2.2.keep (h x hx).1 hb⟩
theorem PX.nil (X : Nat → Prop) (w : World) (p : PS) (h1 : p.utf = []) (h2 : p.ps = []) : PX X w (.slice none 0 0) (.slice none 0 0) p := ⟨RS.nil w p h1 h2, (fun _ _ _ e => by cases e), (fun _ _ _ e => by cases e), (fun _ _ _ _ _ e => by cases e)⟩
/-- what Feed hands back -/
def FedPost (X : Nat → Prop) (r : PS × List EV × Int) (w : World) (e : Ending) (w' : World) : Prop :=
  ∃ u q v xs, e = .returned (.tuple #[.agg (cS r.1 u q), v, .int .i64 r.2.2]) ∧ PX X w' u q r.1 ∧ OwnV w' w.heap.size v xs ∧ xs.map (·.e) = r.2.1 ∧ EX X w' xs ∧ Below w.heap.size w w'
theorem off_lx {X : Nat → Prop} {b : Nat} {g : Option Nat} {v : Value} (h : Off X b g v) : LX X v := fun ad n c e h0 => (h ad n c e h0).2.2
theorem pl_lx {X : Nat → Prop} {b : Nat} {g : Option Nat} {w : World} {v : Value} (h : PL (Off X b g) w v) : PL (LX X) w v := fun A n c j x e hj hx => off_lx (h A n c j x e hj hx)
theorem lx_off {X : Nat → Prop} {b : Nat} {v : Value} (h : LX X v) (hb : ∀ ad n c, v = .slice (some ad) n c → 0 < n → ad.block < b) : Off X b none v := fun ad n c e h0 => ⟨by have := hb ad n c e h0; omega, by simp, h ad n c e h0⟩
theorem PX.off {X : Nat → Prop} {b : Nat} {w w' : World} {u q : Value} {p : PS} (h : PX X w u q p) (hb : Below w.heap.size w w') (hw : w.heap.size ≤ b) : RBx X b none w' u p.utf ∧ RLx X b none w' q p.ps := by
  obtain ⟨⟨h1, h2⟩, h3, h4, h5⟩ := h
  refine ⟨⟨h1.keep hb, lx_off h3 (fun ad n c e h0 => Nat.lt_of_lt_of_le (RB.lt h1 ad n c e h0) hw)⟩, h2.keep hb, lx_off h4 (fun ad n c e h0 => Nat.lt_of_lt_of_le (RL.lt h2 ad n c e h0) hw), ?_⟩
  have h6 := h5.keep h2 hb
  intro A n c j x e hj hx
  refine lx_off (h6 A n c j x e hj hx) (fun ad m d e' h0 => ?_)
  obtain ⟨A', c', vs, hv, _, _, _, hl, hrd, hi⟩ := h2.keep hb
  rw [e] at hv
  injection hv with e1 e2 e3
  subst e1
  obtain ⟨y, hy⟩ := get_some vs j (by omega)
  obtain ⟨ad', e'', _, hc⟩ := hrd j y hy
  cases e''
  rw [hx] at hc
  injection hc with hc
  subst hc
  obtain ⟨A2, c2, vs2, hv2, _, _, _, hl2, hrd2, hi2⟩ := h2
  rw [e] at hv2
  injection hv2 with f1 f2 f3
  obtain ⟨z, hz⟩ := get_some vs2 j (by omega)
  obtain ⟨ad2, e2', hlt2, hc2⟩ := hrd2 j z hz
  rw [← f1] at e2'
  cases e2'
  have eb : (A.add j).block = A.block := by unfold Addr.add; split <;> rfl
  have hsame := hb.cell (p := A.add j) (by rw [eb]; exact hlt2)
  rw [hx, hc2] at hsame
  injection hsame with hsame
  subst hsame
  obtain ⟨pp, hp⟩ := get_some p.ps j (by omega)
  exact Nat.lt_of_lt_of_le (RI.lt (hi2 j x pp hz hp) ad m d e' h0) hw
theorem ret_cell3 {P : Program} {fn : Func} {p u v : Tmp} {ty : TypeId} (h : fn.results = #[.cell p ty, .tmp u, .tmp v]) (tmps : Array Value) (w : World) (a : Addr) (x : Value) (ha : tmps.getD p undef = .pointer (some a)) (hl : (loadVar ty a).run P w = .ok x w) :
    (results fn tmps).run P w = .ok (.tuple #[x, tmps.getD u undef, tmps.getD v undef]) w := by
  have ha' : tmps[p]?.getD undef = .pointer (some a) := by simpa using ha
  simp only [results, h]
  simp [ha', asAddr, hl]
theorem runS_take (r : PS × List EV) (s : List UInt8) (k : Nat) (c : UInt8) (h : s[k]? = some c) : runS r (s.take (k + 1)) = ((oneS (runS r (s.take k)).1 c).1, (runS r (s.take k)).2 ++ (oneS (runS r (s.take k)).1 c).2) := by
  rw [List.take_add_one, h]
  exact runS_snoc _ _ _
theorem one_len (p : PS) (b : UInt8) : (oneS p b).2.length ≤ 2 := by
  have hp : ∀ u, (prtS u b).2.length ≤ 2 := fun u => by
    rw [prt_is]
    have := fold_len (stepL u b).2 (stD (stepL u b).1)
    have h2 := stepL_len u b
    have : (stD (stepL u b).1).2.length = 0 := rfl
    omega
  have ht : ∀ q e, (tolS q e).2.length ≤ 2 := fun q e => by unfold tolS; split <;> simp
  have he : (escS b).2.length ≤ 2 := by unfold escS; repeat' split
                                        all_goals simp
  have hf : ∀ q, (finS q b).2.length ≤ 2 := fun q => by
    unfold finS
    split
    · exact ht _ _
    · split <;> simp
  have hb : (escB b).2.length ≤ 2 := by
    unfold escB
    split
    · exact hp _
    · split
      · simp
      · split
        · simp
        · exact he
  unfold oneS
  split
  · exact hp _
  · split
    · simp
    · split
      · split <;> simp
      · split
        · unfold endS
          repeat' split
          · exact hb
          · exact ht _ _
          · exact ht _ _
          · simp
        · split
          · unfold witS
            repeat' split
            · exact ht _ _
            · simp
            · simp
            · simp
          · split
            · exact hp _
            · split
              · split <;> simp
              · split
                · simp
                · unfold goeS
                  repeat' split
                  all_goals first | exact he | exact ht _ _ | exact hf _ | simp
theorem run_len (s : List UInt8) : ∀ r : PS × List EV, (runS r s).2.length ≤ r.2.length + 2 * s.length := by
  induction s with
  | nil => intro r; exact Nat.le_add_right _ _
  | cons b s ih =>
    intro r
    have h1 := ih ((oneS r.1 b).1, r.2 ++ (oneS r.1 b).2)
    have h2 := one_len r.1 b
    rw [runS]
    simp only [List.length_append, List.length_cons] at h1 ⊢
    omega
theorem PX.away {X : Nat → Prop} {w : World} {u q : Value} {p : PS} {B : Nat} (h : PX X w u q p) (hB : w.heap.size ≤ B) : PX (fun k => X k ∧ k ≠ B) w u q p := by
  obtain ⟨⟨h1, h2⟩, h3, h4, h5⟩ := h
  refine ⟨⟨h1, h2⟩, fun ad n c e h0 => ⟨h3 ad n c e h0, by have := RB.lt h1 ad n c e h0; omega⟩, fun ad n c e h0 => ⟨h4 ad n c e h0, by have := RL.lt h2 ad n c e h0; omega⟩, ?_⟩
  intro A n c j x e hj hx ad m d e' h0
  refine ⟨h5 A n c j x e hj hx ad m d e' h0, ?_⟩
  obtain ⟨A', c', vs, hv, _, _, _, hl, hrd, hi⟩ := h2
  rw [e] at hv
  injection hv with e1 e2 e3
  subst e1
  obtain ⟨y, hy⟩ := get_some vs j (by omega)
  obtain ⟨ad', e'', _, hc⟩ := hrd j y hy
  cases e''
  rw [hx] at hc
  injection hc with hc
  subst hc
  obtain ⟨pp, hp⟩ := get_some p.ps j (by omega)
  have := RI.lt (hi j x pp hy hp) ad m d e' h0
  omega
theorem off_away {X : Nat → Prop} {b B : Nat} {g : Option Nat} {v : Value} (h : Off (fun k => X k ∧ k ≠ B) b g v) : Off X B none v := fun ad n c e h0 => ⟨(h ad n c e h0).2.2.2, by simp, (h ad n c e h0).2.2.1⟩
theorem RLx.away {X : Nat → Prop} {b B : Nat} {g : Option Nat} {w : World} {v : Value} {l : List (List Int)} (h : RLx (fun k => X k ∧ k ≠ B) b g w v l) : RLx X B none w v l := ⟨h.1, off_away h.2.1, fun A n c j x e hj hx => off_away (h.2.2 A n c j x e hj hx)⟩
theorem RBx.away {X : Nat → Prop} {b B : Nat} {g : Option Nat} {w : World} {v : Value} {l : List UInt8} (h : RBx (fun k => X k ∧ k ≠ B) b g w v l) : RBx X B none w v l := ⟨h.1, off_away h.2⟩
theorem OwnV.mono {w : World} {B B' : Nat} {v : Value} {xs : List EQ} (h : OwnV w B v xs) (hB : B' ≤ B) : OwnV w B' v xs := own_mono h hB
theorem PX.of {X : Nat → Prop} {b : Nat} {g : Option Nat} {w : World} {u q : Value} {p : PS} (h1 : RBx X b g w u p.utf) (h2 : RLx X b g w q p.ps) : PX X w u q p := ⟨⟨h1.1, h2.1⟩, off_lx h1.2, off_lx h2.2.1, pl_lx h2.2.2⟩
set_option maxRecDepth 100000 in
set_option maxHeartbeats 8000000 in
theorem feed_all (X : Nat → Prop) (p : PS) (au aq A : Option Addr) (nu cu nq cq nb cb : Nat) (bs : List UInt8) (w : World) (hr : PX X w (.slice au nu cu) (.slice aq nq cq) p) (hX : ∀ k, w.heap.size ≤ k → X k) (hm : Mk w) (ht : Tf w) (hbs : Rd w A (cB bs)) (hnb : nb = bs.length) (hb6 : nb ≤ 1000000)
    (s1 : p.utf.length ≤ 1000000) (s2 : Kq p.ps) (s3 : p.it.size ≤ 1000000) (s4 : p.tx.size ≤ 1000000) :
    Calls Tryz.prog 18 #[.agg (cS p (.slice au nu cu) (.slice aq nq cq)), .slice A nb cb] w (FedPost X (fedS p bs) w) := by
  have hx1 := below_box w (.cells (cS p (.slice au nu cu) (.slice aq nq cq)) 25)
  have hx2 : Below w.heap.size w ((w.alloc (.cells (cS p (.slice au nu cu) (.slice aq nq cq)) 25)).alloc (.cells #[.int .i64 0, .slice none 0 0, .int .u8 0, .int .u8 0, .slice none 0 0, .string ⟨#[]⟩, .string ⟨#[]⟩, .bool false] 25)) := up hx1 (below_box _ _)
  have HC := Lib.hid (check6_all p au aq nu cu nq cq _ (hr.1.keep hx2) (hm.keep hx2) (ht.keep hx2) s1 s2 s3 s4)
  have HP := Lib.hid hr
  have HXX := Lib.hid hX
  have HMK := Lib.hid hm
  have HBS := Lib.hid hbs
  have HNB := Lib.hid hnb
  clear hr hX hm ht hbs hnb s1 s2 s3 s4
  unfold fedS
  obtain ⟨t, ht⟩ : ∃ t, mayS p = t := ⟨_, rfl⟩
  have HT := Lib.hid ht
  rw [ht] at HC ⊢
  clear ht
  have hp2 := (Box.new w #[.int .i64 p.st, .slice au nu cu, .int .u8 (p.pr.toNat : Int), .int .u8 (p.fi.toNat : Int), .slice aq nq cq, .string p.it, .string p.tx, .bool p.bad] 25).alloc (.cells #[.int .i64 0, .slice none 0 0, .int .u8 0, .int .u8 0, .slice none 0 0, .string ⟨#[]⟩, .string ⟨#[]⟩, .bool false] 25)
  have hz2 := Box.new (w.alloc (.cells #[.int .i64 p.st, .slice au nu cu, .int .u8 (p.pr.toNat : Int), .int .u8 (p.fi.toNat : Int), .slice aq nq cq, .string p.it, .string p.tx, .bool p.bad] 25)) #[.int .i64 0, .slice none 0 0, .int .u8 0, .int .u8 0, .slice none 0 0, .string ⟨#[]⟩, .string ⟨#[]⟩, .bool false] 25
  rw [World.size_alloc] at hz2
  have HP2 := Lib.hid hp2
  have HZ2 := Lib.hid hz2
  have HX2 := Lib.hid hx2
  clear hx1 hx2 hp2 hz2
  unfold cS at HC HX2 ⊢
  cases t with
  | false =>
    rw [if_neg (by decide)] at HC ⊢
    go_enter Tryz.func18, Tryz.ntmps18
    go_wp2_with (go_at_call 8; refine HC.out.mono ?_; rintro e w3 ⟨rfl, hb3⟩; have hz3 := HZ2.out.keep hb3; have hp3 := HP2.out.keep hb3; obtain ⟨z0, v0, z1, v1, z2, v2, z3, v3, z4, v4, z5, v5, z6, v6, z7, v7⟩ := cf8 hz3; have y0 := hp3.cell 0 _ rfl; have y1 := hp3.cell 1 _ rfl; have y2 := hp3.cell 2 _ rfl; have y3 := hp3.cell 3 _ rfl; have y4 := hp3.cell 4 _ rfl; have y5 := hp3.cell 5 _ rfl; have y6 := hp3.cell 6 _ rfl; have y7 := hp3.cell 7 _ rfl; have HZ3 := Lib.hid hz3; have HP3 := Lib.hid hp3; have HB3 := Lib.hid (up HX2.out hb3); have hl3 : w.heap.size + 1 < w3.heap.size := hz3.1; clear hz3 hp3 hb3)
    refine bodyPost_ret (ret_cell3 rfl _ _ ⟨w.heap.size + 1, 0, none⟩ _ rfl (load_par8 _ _ _ _ _ _ _ _ _ _ (box_set8 _ _ _ _ _ _ _ _ HZ3.out))) rfl ?_
    exact ⟨_, _, _, [], rfl, PX.nil _ _ _ rfl rfl, OwnV.nil _ _, rfl, (fun x hx => by cases hx), below_set8 _ _ _ _ _ _ _ _ _ HB3.out (by omega)⟩
  | true =>
    rw [if_pos rfl] at HC ⊢
    by_cases hbig : 4096 < nb
    · rw [if_pos (by rw [← HNB.out]; exact hbig)]
      have d1 : decide ((4096 : Int) < (nb : Int)) = true := by simp; omega
      go_enter Tryz.func18, Tryz.ntmps18
      go_wp2_with (go_at_call 8; refine HC.out.mono ?_; rintro e w3 ⟨rfl, hb3⟩; have hz3 := HZ2.out.keep hb3; have hp3 := HP2.out.keep hb3; obtain ⟨z0, v0, z1, v1, z2, v2, z3, v3, z4, v4, z5, v5, z6, v6, z7, v7⟩ := cf8 hz3; have y0 := hp3.cell 0 _ rfl; have y1 := hp3.cell 1 _ rfl; have y2 := hp3.cell 2 _ rfl; have y3 := hp3.cell 3 _ rfl; have y4 := hp3.cell 4 _ rfl; have y5 := hp3.cell 5 _ rfl; have y6 := hp3.cell 6 _ rfl; have y7 := hp3.cell 7 _ rfl; have HZ3 := Lib.hid hz3; have HP3 := Lib.hid hp3; have HB3 := Lib.hid (up HX2.out hb3); have hl3 : w.heap.size + 1 < w3.heap.size := hz3.1; clear hz3 hp3 hb3)
      refine bodyPost_ret (ret_cell3 rfl _ _ ⟨w.heap.size + 1, 0, none⟩ _ rfl (load_par8 _ _ _ _ _ _ _ _ _ _ (box_set8 _ _ _ _ _ _ _ _ HZ3.out))) rfl ?_
      exact ⟨_, _, _, [], rfl, PX.nil _ _ _ rfl rfl, OwnV.nil _ _, rfl, (fun x hx => by cases hx), below_set8 _ _ _ _ _ _ _ _ _ HB3.out (by omega)⟩
    · rw [if_neg (by rw [← HNB.out]; exact hbig)]
      have d1 : decide ((4096 : Int) < (nb : Int)) = false := by simp; omega
      go_enter Tryz.func18, Tryz.ntmps18
      go_wp2_with (go_at_call 8; refine HC.out.mono ?_; rintro e w3 ⟨rfl, hb3⟩; have hz3 := HZ2.out.keep hb3; have hp3 := HP2.out.keep hb3; obtain ⟨z0, v0, z1, v1, z2, v2, z3, v3, z4, v4, z5, v5, z6, v6, z7, v7⟩ := cf8 hz3; have y0 := hp3.cell 0 _ rfl; have y1 := hp3.cell 1 _ rfl; have y2 := hp3.cell 2 _ rfl; have y3 := hp3.cell 3 _ rfl; have y4 := hp3.cell 4 _ rfl; have y5 := hp3.cell 5 _ rfl; have y6 := hp3.cell 6 _ rfl; have y7 := hp3.cell 7 _ rfl; have HZ3 := Lib.hid hz3; have HP3 := Lib.hid hp3; have HB3 := Lib.hid (up HX2.out hb3); have hl3 : w.heap.size + 1 < w3.heap.size := hz3.1; clear hz3 hp3 hb3)
      clear z0 v0 y0 z1 v1 y1 z2 v2 y2 z3 v3 y3 z4 v4 y4 z5 v5 y5 z6 v6 y6 z7 v7 y7
      have hb4 := below_box w3 (.cells #[.int .i64 p.st, .slice au nu cu, .int .u8 (p.pr.toNat : Int), .int .u8 (p.fi.toNat : Int), .slice aq nq cq, .string p.it, .string p.tx, .bool p.bad, .slice none 0 0] 64)
      have hD := HP.out.away (B := w.heap.size + 1) (by omega)
      have hoff := PX.off hD (up HB3.out hb4) (b := w3.heap.size) (by omega)
      have hdec : Dec (fun k => X k ∧ k ≠ w.heap.size + 1) w3.heap.size none (w3.alloc (.cells #[.int .i64 p.st, .slice au nu cu, .int .u8 (p.pr.toNat : Int), .int .u8 (p.fi.toNat : Int), .slice aq nq cq, .string p.it, .string p.tx, .bool p.bad, .slice none 0 0] 64)) p [] :=
        ⟨_, _, _, [], Box.new w3 #[.int .i64 p.st, .slice au nu cu, .int .u8 (p.pr.toNat : Int), .int .u8 (p.fi.toNat : Int), .slice aq nq cq, .string p.it, .string p.tx, .bool p.bad, .slice none 0 0] 64, OwnV.nil _ _, rfl, rfl, hoff.1, hoff.2, (fun x hx => by cases hx), fun k hk => ⟨HXX.out k (by omega), by omega⟩⟩
      have hmk : MkB w3.heap.size (w3.alloc (.cells #[.int .i64 p.st, .slice au nu cu, .int .u8 (p.pr.toNat : Int), .int .u8 (p.fi.toNat : Int), .slice aq nq cq, .string p.it, .string p.tx, .bool p.bad, .slice none 0 0] 64)) := ⟨HMK.out.keep (up HB3.out hb4), by have := HMK.out.1; omega⟩
      have hz4 := HZ3.out.keep hb4
      have HDEC := Lib.hid hdec
      have HMB := Lib.hid hmk
      have HZ4 := Lib.hid hz4
      have HB4 := Lib.hid (up HB3.out hb4)
      have hs4 : ((w3.alloc (.cells #[.int .i64 p.st, .slice au nu cu, .int .u8 (p.pr.toNat : Int), .int .u8 (p.fi.toNat : Int), .slice aq nq cq, .string p.it, .string p.tx, .bool p.bad, .slice none 0 0] 64))).heap.size = w3.heap.size + 1 := World.size_alloc ..
      have HS4 := Lib.hid hs4
      clear hb4 hD hoff hdec hmk hz4 hs4
      generalize (w3.alloc (.cells #[.int .i64 p.st, .slice au nu cu, .int .u8 (p.pr.toNat : Int), .int .u8 (p.fi.toNat : Int), .slice aq nq cq, .string p.it, .string p.tx, .bool p.bad, .slice none 0 0] 64)) = w4 at HDEC HMB HZ4 HB4 HS4 ⊢
      go_loopw [25] (fun i wr => ∃ k : Nat, k ≤ nb ∧ i = .int .i64 k ∧ Hid (Run (fun k => X k ∧ k ≠ w.heap.size + 1) w3.heap.size none w4 (runS (p, []) (bs.take k)) [] wr)) (fun i _ => nb - (intOf i).toNat)
      case atStart => exact ⟨0, Nat.zero_le _, rfl, none, HDEC.out, Frm.refl _⟩
      case round =>
        obtain ⟨k, hk, rfl, hid⟩ := hrel
        by_cases hlt : k < nb
        · obtain ⟨c, hc⟩ := get_some bs k (by rw [← HNB.out]; exact hlt)
          obtain ⟨g1, hd, hf⟩ := hid.out
          have hbr : Below w.heap.size w wr := HB4.out.trans (hf.below.mono (by omega))
          obtain ⟨ad, hA, _, hcell⟩ := (HBS.out.below hbr) k _ (cB_at bs k c hc)
          subst hA
          have hmay := run_may (bs.take k) (p, []) HT.out
          have hlen := run_len (bs.take k) (p, [])
          have htk := List.length_take_le k bs
          have HTK := Lib.hid (take_any6 c w3.heap.size g1 wr _ ([] ++ (runS (p, []) (bs.take k)).2) hd (HMB.out.frm hf) (by rw [List.nil_append]; simp only [List.length_nil] at hlen; omega) hmay)
          have HRS := Lib.hid (runS_take (p, []) bs k c hc)
          have HF := Lib.hid hf
          clear hid hd hf hbr hmay hlen htk hc
          have i1 : (0 : Int) ≤ (k : Int) := by omega
          have i2 : (k : Int) < (nb : Int) := by omega
          go_wp2_with (go_at_call 32; refine HTK.out.mono ?_; rintro e w5 ⟨rfl, g2, hd, hf⟩; have HD := Lib.hid hd; have HF2 := Lib.hid hf; clear hd hf)
          go_roundw
          case rel =>
            refine ⟨k + 1, by omega, by go_num, g2, ?_, HF.out.trans HF2.out⟩
            rw [HRS.out]
            exact HD.out
          case measure => simp [intOf]; omega
        · obtain ⟨g1, hd, hf⟩ := hid.out
          rw [List.take_of_length_le (by rw [← HNB.out]; omega)] at hd
          obtain ⟨r, hr⟩ : ∃ r, runS (p, []) bs = r := ⟨_, rfl⟩
          rw [hr] at hd
          have HR := Lib.hid hr
          clear hr
          obtain ⟨u, q, v, xs, hx5, hv, hl, hg, hu, hq, hxs, -⟩ := hd
          obtain ⟨Au, cu', rfl⟩ := hu.1.form
          obtain ⟨Aq, cq', rfl⟩ := hq.1.form
          obtain ⟨Av, cv, rfl, hv1, hv2⟩ := hv.form
          have hz5 := HZ4.out.below hf.below (by omega)
          obtain ⟨z0, v0, z1, v1, z2, v2, z3, v3, z4, v4, z5, v5, z6, v6, z7, v7⟩ := cf8 hz5
          have y0 := hx5.cell 0 _ rfl
          have y1 := hx5.cell 1 _ rfl
          have y2 := hx5.cell 2 _ rfl
          have y3 := hx5.cell 3 _ rfl
          have y4 := hx5.cell 4 _ rfl
          have y5 := hx5.cell 5 _ rfl
          have y6 := hx5.cell 6 _ rfl
          have y7 := hx5.cell 7 _ rfl
          have y8 := hx5.cell 8 _ rfl
          have HX5 := Lib.hid hx5
          have HZ5 := Lib.hid hz5
          have HL := Lib.hid hl
          have HG := Lib.hid hg
          have HV := Lib.hid hv
          have HXS := Lib.hid hxs
          have HU := Lib.hid hu
          have HQ := Lib.hid hq
          have HF := Lib.hid hf
          have hbs5 : w3.heap.size < wr.heap.size := by have := hf.below.size; have := HS4.out; omega
          clear hx5 hz5 hl hg hv hxs hu hq hf hid
          generalize r.1.utf.length = m1 at *
          generalize r.1.ps.length = m2 at *
          generalize xs.length = m3 at *
          go_wp2_with fail
          go_region
          go_wp2
          have gs : wr.grownBy ((((((((((wr.setCell ⟨w.heap.size + 1, 0, none⟩ (.int .i64 r.1.st)).setCell ⟨w.heap.size + 1, 1, none⟩ (.slice Au m1 cu')).setCell ⟨w.heap.size + 1, 2, none⟩ (.int .u8 (r.1.pr.toNat : Int))).setCell ⟨w.heap.size + 1, 3, none⟩ (.int .u8 (r.1.fi.toNat : Int))).setCell ⟨w.heap.size + 1, 4, none⟩ (.slice Aq m2 cq')).setCell ⟨w.heap.size + 1, 5, none⟩ (.string r.1.it)).setCell ⟨w.heap.size + 1, 6, none⟩ (.string r.1.tx)).setCell ⟨w.heap.size + 1, 7, none⟩ (.bool r.1.bad))).drew) (some (w.heap.size + 1)) := grown_drew (grown_set8 _ _ _ _ _ _ _ _ _ _)
          have hfr : Frm (w.heap.size + 1) none none wr _ := Frm.of_set gs (by omega)
          refine bodyPost_ret (ret_cell3 rfl _ _ ⟨w.heap.size + 1, 0, none⟩ _ rfl (load_par8 _ _ _ _ _ _ _ _ _ _ ((box_set8 _ _ _ _ _ _ _ _ HZ5.out).drew))) rfl ?_
          refine ⟨.slice Au m1 cu', .slice Aq m2 cq', .slice Av m3 cv, xs, ?_, ?_, ?_, ?_, ?_, ?_⟩
          · rw [HR.out]; rfl
          · rw [HR.out]; exact PX.of (RBx.frm (RBx.away HU.out) hfr) (RLx.frm (RLx.away HQ.out) hfr)
          · exact (OwnV.at HV.out (fun k _ h1 h2 => gs.block k h2 (by intro e; injection e with e; omega))).mono (by omega)
          · rw [HR.out]; exact HL.out.trans (List.nil_append _)
          · exact fun x hx => have := RLx.frm (RLx.away (HXS.out x hx)) hfr; ⟨this.1, off_lx this.2.1, pl_lx this.2.2⟩
          · exact (HB4.out.trans (HF.out.below.mono (by omega))).grown gs (by omega) (fun k hk => by cases hk; omega)
theorem feed_any (X : Nat → Prop) (p : PS) (au aq A : Option Addr) (nu cu nq cq nb cb : Nat) (bs : List UInt8) (w : World) (hr : PX X w (.slice au nu cu) (.slice aq nq cq) p) (hX : ∀ k, w.heap.size ≤ k → X k) (hm : Mk w) (ht : Tf w) (hbs : Rd w A (cB bs)) (hnb : nb = bs.length) (hb6 : nb ≤ 1000000)
    (_ : -100000 ≤ p.st ∧ p.st ≤ 100000) (s1 : p.utf.length ≤ 1000000) (s2 : Kq p.ps) (s3 : p.it.size ≤ 1000000) (s4 : p.tx.size ≤ 1000000) :
    Calls Tryz.prog 18 #[.agg (cS p (.slice au nu cu) (.slice aq nq cq)), .slice A nb cb] w (FedPost X (fedS p bs) w) :=
  feed_all X p au aq A nu cu nq cq nb cb bs w hr hX hm ht hbs hnb hb6 s1 s2 s3 s4
end Go.Proofs.YtmboekpomjgnnaaGreatDoor.Sta
