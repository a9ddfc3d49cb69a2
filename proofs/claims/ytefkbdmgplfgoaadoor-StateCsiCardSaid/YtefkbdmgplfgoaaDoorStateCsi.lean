/-
  What a CSI sequence comes to: plain facts for StateCsi. The walk of StateCsi.
-/
import Derived.Test.YtefkbdmgplfgoaaDoorStaMath
import Derived.Test.YtefkbdmgplfgoaaDoorStaAm
import Derived.Deep.CutBlock
import Derived.Deep.RegionHeld3
import Derived.Deep.RegionWith
import Derived.IntWalk
namespace Go.Proofs.YtefkbdmgplfgoaaDoor.Sta
open Utf Par

/-- decimal digits -/
def cdec (u : Nat) : List UInt8 := if h : u < 10 then [UInt8.ofNat (48 + u)] else cdec (u / 10) ++ [UInt8.ofNat (48 + u % 10)]
termination_by u
decreasing_by omega
def cspL (vs : List Int) : List (List Int) := vs.map fun v => [v]
def cshut (o : List (List Int)) : List (List Int) := if o = [[-1]] then [] else o
def cnum (z : Int) : List UInt8 := if z = -1 then [] else cdec z.toNat
def crest (r : List Int) : List UInt8 := r.flatMap fun z => 59 :: cnum z
def ctxt : List Int → List UInt8
  | [] => []
  | v :: r => cnum v ++ crest r
def okV (vs : List Int) : Prop := ∀ v ∈ vs, -1 ≤ v ∧ v ≤ 9999
theorem ctxt_snoc (l : List Int) (v : Int) : ctxt (l ++ [v]) = if l = [] then cnum v else ctxt l ++ 59 :: cnum v := by
  cases l with
  | nil => simp [ctxt, crest]
  | cons a r => simp [ctxt, crest]
theorem csp_bad {vs : List Int} (h : okV vs) (hl : vs.length ≤ 16) : isBad (cshut (cspL vs)) = false := by
  unfold cshut
  split
  · decide
  · rename_i hne
    unfold isBad
    simp only [Bool.or_eq_false_iff, decide_eq_false_iff_not, List.any_eq_false]
    refine ⟨⟨by simp [cspL]; omega, fun p hp => ?_⟩, hne⟩
    obtain ⟨v, hv, rfl⟩ := List.mem_map.1 hp
    have := h v hv
    unfold wrongP wrongI
    simp
    omega
theorem csp_open {vs : List Int} (hne : vs ≠ []) : opened (cshut (cspL vs)) = cspL vs := by
  unfold cshut opened
  split
  · rename_i e; rw [e]; rfl
  · rw [if_neg (by simpa [cspL] using hne)]
theorem cshut_big {o : List (List Int)} (h : o ≠ [[-1]]) : cshut o = o := by unfold cshut; rw [if_neg h]
theorem csp_snoc (vs : List Int) (v : Int) : cspL (vs ++ [v]) = cspL vs ++ [[v]] := by simp [cspL]
theorem csp_ne {vs : List Int} {z : Int} (hz : z ≠ -1 ∨ vs ≠ []) : cspL (vs ++ [z]) ≠ [[-1]] := by
  intro e
  rw [csp_snoc] at e
  rcases hz with hz | hz
  · have := congrArg (fun l => (l.getLastD []).getLastD 0) e
    simp at this
    exact hz this
  · have := congrArg List.length e
    simp [cspL] at this
    exact hz this
theorem cstp_digit {vs : List Int} {y : Int} {c : UInt8} (h : okV (vs ++ [y])) (hl : vs.length < 16) (h1 : 48 ≤ c.toNat) (h2 : c.toNat ≤ 57) : stpV (cshut (cspL (vs ++ [y]))) c = (cspL (vs ++ [digI y ((c.toNat : Int) - 48)]), 0) := by
  unfold stpV
  rw [csp_bad h (by simp; omega), if_neg (by decide), if_pos ⟨h1, h2⟩, csp_open (by simp), csp_snoc, csp_snoc]
  simp [digL, digP]
theorem cstp_semi {vs : List Int} (h : okV vs) (hne : vs ≠ []) (hl : vs.length < 16) : stpV (cshut (cspL vs)) 59 = (cspL (vs ++ [-1]), 0) := by
  unfold stpV
  rw [csp_bad h (by omega), if_neg (by decide), if_neg (by decide), if_neg (by decide), if_pos (by decide), csp_open hne, if_neg (by simp [cspL]; omega), csp_snoc]
theorem cstp_full {vs : List Int} (h : okV vs) (hl : vs.length = 16) : stpV (cshut (cspL vs)) 59 = ([], 3) := by
  have hne : vs ≠ [] := by intro e; rw [e] at hl; simp at hl
  unfold stpV
  rw [csp_bad h (by omega), if_neg (by decide), if_neg (by decide), if_neg (by decide), if_pos (by decide), csp_open hne, if_pos (by simp [cspL]; omega)]
theorem crun_append {l l' : List (List Int)} {a b : List UInt8} (h : runV l a = (l', 0)) : runV l (a ++ b) = runV l' b := by
  induction a generalizing l with
  | nil => simp [runV] at h; subst h; rfl
  | cons c a ih =>
    rw [List.cons_append, runV]
    rw [runV] at h
    split at h
    · rw [if_pos (by assumption)]; exact ih h
    · exact absurd (congrArg Prod.snd h) (by assumption)
theorem okV_last {vs : List Int} {y z : Int} (h : okV (vs ++ [y])) (hz : -1 ≤ z ∧ z ≤ 9999) : okV (vs ++ [z]) := fun x hx => by
  rcases List.mem_append.1 hx with hx | hx
  · exact h x (by simp [hx])
  · simp at hx; subst hx; exact hz
theorem crun_digits (u : Nat) (hu : u ≤ 9999) (vs : List Int) (h : okV (vs ++ [-1])) (hl : vs.length < 16) : runV (cshut (cspL (vs ++ [-1]))) (cdec u) = (cspL (vs ++ [(u : Int)]), 0) := by
  induction u using Nat.strongRecOn with
  | _ u ih =>
    by_cases hs : u < 10
    · rw [cdec, dif_pos hs, runV]
      have hc : (UInt8.ofNat (48 + u)).toNat = 48 + u := by rw [UInt8.toNat_ofNat']; omega
      rw [cstp_digit h hl (by rw [hc]; omega) (by rw [hc]; omega), hc]
      rw [if_pos rfl, runV]
      have : digI (-1) (((48 + u : Nat) : Int) - 48) = (u : Int) := by unfold digI; omega
      rw [this]
    · rw [cdec, dif_neg hs]
      have ih' := ih (u / 10) (by omega) (by omega)
      rw [crun_append ih', runV]
      have hc : (UInt8.ofNat (48 + u % 10)).toNat = 48 + u % 10 := by rw [UInt8.toNat_ofNat']; omega
      have hk : okV (vs ++ [((u / 10 : Nat) : Int)]) := okV_last h (by omega)
      have e : cshut (cspL (vs ++ [((u / 10 : Nat) : Int)])) = cspL (vs ++ [((u / 10 : Nat) : Int)]) := cshut_big (csp_ne (.inl (by omega)))
      have := cstp_digit (c := UInt8.ofNat (48 + u % 10)) hk hl (by rw [hc]; omega) (by rw [hc]; omega)
      rw [e, hc] at this
      rw [this, if_pos rfl, runV]
      have : digI ((u / 10 : Nat) : Int) (((48 + u % 10 : Nat) : Int) - 48) = (u : Int) := by unfold digI; omega
      rw [this]
theorem crun_num (z : Int) (hz : -1 ≤ z ∧ z ≤ 9999) (vs : List Int) (h : okV vs) (hl : vs.length < 16) : runV (cshut (cspL (vs ++ [-1]))) (cnum z) = (cshut (cspL (vs ++ [z])), 0) := by
  have hk : okV (vs ++ [-1]) := fun x hx => by
    rcases List.mem_append.1 hx with hx | hx
    · exact h x hx
    · simp at hx; subst hx; omega
  unfold cnum
  split
  · rename_i e; subst e; rfl
  · rename_i e
    have := crun_digits z.toNat (by omega) vs hk hl
    rw [this, cshut_big (csp_ne (.inl e)), show ((z.toNat : Nat) : Int) = z by omega]
theorem crun_rest (r : List Int) : ∀ vs : List Int, okV (vs ++ r) → vs ≠ [] → (vs ++ r).length ≤ 16 → runV (cshut (cspL vs)) (crest r) = (cshut (cspL (vs ++ r)), 0) := by
  induction r with
  | nil => intro vs _ _ _; rw [List.append_nil]; rfl
  | cons z r ih =>
    intro vs h hne hl
    simp only [List.length_append, List.length_cons] at hl
    have hv : okV vs := fun x hx => h x (by simp [hx])
    show runV (cshut (cspL vs)) (59 :: cnum z ++ crest r) = _
    have s1 : runV (cshut (cspL vs)) [59] = (cshut (cspL (vs ++ [-1])), 0) := by
      rw [runV, cstp_semi hv hne (by omega), if_pos rfl, cshut_big (csp_ne (.inr hne))]; rfl
    have s2 := crun_num z (h z (by simp)) vs hv (by omega)
    rw [show (59 :: cnum z ++ crest r : List UInt8) = [59] ++ (cnum z ++ crest r) from rfl, crun_append s1, crun_append s2]
    have := ih (vs ++ [z]) (by rw [List.append_assoc]; exact h) (by simp) (by simp; omega)
    rw [this, List.append_assoc]; rfl
theorem crun_all (vs : List Int) (h : okV vs) (hl : vs.length ≤ 16) : runV [] (ctxt vs) = (cshut (cspL vs), 0) := by
  cases vs with
  | nil => rfl
  | cons v r =>
    have s2 := crun_num v (h v (by simp)) [] (fun x hx => by cases hx) (by simp)
    have e0 : cshut (cspL ([] ++ [-1])) = [] := by decide
    rw [e0] at s2
    rw [ctxt, crun_append s2]
    have := crun_rest r [v] h (by simp) hl
    exact this
theorem dec_sg (u : Nat) : ∀ b ∈ cdec u, 48 ≤ b.toNat ∧ b.toNat ≤ 59 := by
  induction u using Nat.strongRecOn with
  | _ u ih =>
    intro b hb
    by_cases hs : u < 10
    · rw [cdec, dif_pos hs] at hb
      obtain rfl := List.mem_singleton.1 hb
      rw [UInt8.toNat_ofNat']; omega
    · rw [cdec, dif_neg hs] at hb
      rcases List.mem_append.1 hb with h | h
      · exact ih (u / 10) (by omega) b h
      · obtain rfl := List.mem_singleton.1 h
        rw [UInt8.toNat_ofNat']; omega
theorem cnum_sg (z : Int) : ∀ b ∈ cnum z, 48 ≤ b.toNat ∧ b.toNat ≤ 59 := fun b hb => by
  unfold cnum at hb
  split at hb
  · cases hb
  · exact dec_sg _ b hb
theorem crest_sg (r : List Int) : ∀ b ∈ crest r, 48 ≤ b.toNat ∧ b.toNat ≤ 59 := fun b hb => by
  obtain ⟨z, _, h⟩ := List.mem_flatMap.1 hb
  rcases List.mem_cons.1 h with rfl | h
  · decide
  · exact cnum_sg z b h
theorem ctxt_sg (vs : List Int) : ∀ b ∈ ctxt vs, 48 ≤ b.toNat ∧ b.toNat ≤ 59 := fun b hb => by
  cases vs with
  | nil => cases hb
  | cons v r =>
    rcases List.mem_append.1 hb with h | h
    · exact cnum_sg v b h
    · exact crest_sg r b h
/-- a sequence that collects parameters -/
def parS (pr : UInt8) (ls : List (List Int)) : PS := { begS 4 with pr := pr, ps := ls }
theorem one_of {p : PS} {b : UInt8} (h1 : 32 ≤ b.toNat) (h2 : b.toNat < 127) (h3 : p.st = 3 ∨ p.st = 4 ∨ p.st = 5) : oneS p b = goeS p b := by
  unfold oneS
  rw [if_neg (by rintro ⟨h, _⟩; omega), if_neg (by omega), if_neg (by omega), if_neg (by omega), if_neg (by omega), if_neg (by omega), if_neg (by omega), if_neg (by omega)]
theorem one_par (pr : UInt8) (ls : List (List Int)) (b : UInt8) (h1 : 48 ≤ b.toNat) (h2 : b.toNat ≤ 59) : oneS (parS pr ls) b = (if (stpV ls b).2 = 0 then parS pr (stpV ls b).1 else spoS 4, []) := by
  rw [one_of (by omega) (by omega) (.inr (.inl rfl))]
  unfold goeS
  have e4 : (parS pr ls).st = 4 := rfl
  rw [if_neg (by omega), if_neg (by omega), if_neg (by omega), if_neg (by omega), if_pos (by omega), if_neg (by omega), if_pos ⟨h1, h2⟩]
  by_cases e : (stpV ls b).2 = 0
  · rw [if_pos e, if_neg (show ¬ ((stpV (parS pr ls).ps b).2 ≠ 0 ∨ (parS pr ls).bad = true) from fun h => h.elim (fun h => h e) (fun h => by cases h))]; rfl
  · rw [if_neg e, if_pos (show (stpV (parS pr ls).ps b).2 ≠ 0 ∨ (parS pr ls).bad = true from Or.inl e)]; rfl
theorem one_spo (b : UInt8) (h1 : 48 ≤ b.toNat) (h2 : b.toNat ≤ 59) : oneS (spoS 4) b = (spoS 4, []) := by
  rw [one_of (by omega) (by omega) (.inr (.inl rfl))]
  unfold goeS
  rw [if_neg (by decide), if_neg (by decide), if_neg (by decide), if_neg (by decide), if_pos (by exact Or.inl rfl), if_neg (by omega), if_pos ⟨h1, h2⟩, if_pos (show (stpV (spoS 4).ps b).2 ≠ 0 ∨ (spoS 4).bad = true from Or.inr rfl)]; rfl
theorem run_spo (s : List UInt8) : ∀ l : List EV, (∀ b ∈ s, 48 ≤ b.toNat ∧ b.toNat ≤ 59) → runS (spoS 4, l) s = (spoS 4, l) := by
  induction s with
  | nil => intro l _; rfl
  | cons b s ih =>
    intro l h
    rw [runS, one_spo b (h b (by simp)).1 (h b (by simp)).2, List.append_nil]
    exact ih l (fun x hx => h x (by simp [hx]))
theorem run_par (s : List UInt8) : ∀ (pr : UInt8) (ls ls' : List (List Int)) (l : List EV), (∀ b ∈ s, 48 ≤ b.toNat ∧ b.toNat ≤ 59) → runV ls s = (ls', 0) → runS (parS pr ls, l) s = (parS pr ls', l) := by
  induction s with
  | nil => intro pr ls ls' l _ h; simp [runV] at h; subst h; rfl
  | cons b s ih =>
    intro pr ls ls' l hs h
    rw [runV] at h
    split at h
    · rename_i e
      rw [runS, one_par pr ls b (hs b (by simp)).1 (hs b (by simp)).2, if_pos e, List.append_nil]
      exact ih pr _ ls' l (fun x hx => hs x (by simp [hx])) h
    · exact absurd (congrArg Prod.snd h) (by assumption)
/-- behind the parameters -/
def csiP (pr : UInt8) (vs : List Int) : PS := if 16 < vs.length then spoS 4 else if pr = 0 ∧ ctxt vs = [] then begS 3 else parS pr (cshut (cspL vs))
theorem one_ent (b : UInt8) (h1 : 48 ≤ b.toNat) (h2 : b.toNat ≤ 59) : oneS (begS 3) b = (parS 0 (stpV [] b).1, []) := by
  rw [one_of (by omega) (by omega) (.inl rfl)]
  unfold goeS
  rw [if_neg (by decide), if_neg (by decide), if_neg (by decide), if_pos (by exact Or.inl rfl), if_neg (by omega), if_pos ⟨h1, h2⟩]; rfl
theorem stp0 (b : UInt8) (h1 : 48 ≤ b.toNat) (h2 : b.toNat ≤ 59) : (stpV [] b).2 = 0 := by
  unfold stpV
  rw [if_neg (by decide)]
  split
  · rfl
  · split
    · rw [if_neg (by decide)]
    · rw [if_pos (by omega), if_neg (by decide)]
theorem run_ent (s : List UInt8) (l : List EV) (hs : ∀ b ∈ s, 48 ≤ b.toNat ∧ b.toNat ≤ 59) : runS (begS 3, l) s = if s = [] then (begS 3, l) else runS (parS 0 [], l) s := by
  cases s with
  | nil => rfl
  | cons b s =>
    rw [if_neg (by simp), runS, runS, one_ent b (hs b (by simp)).1 (hs b (by simp)).2, one_par 0 [] b (hs b (by simp)).1 (hs b (by simp)).2, if_pos (stp0 b (hs b (by simp)).1 (hs b (by simp)).2)]
theorem run_pars (pr : UInt8) (vs : List Int) (l : List EV) (h : okV vs) : runS (parS pr [], l) (ctxt vs) = (if 16 < vs.length then spoS 4 else parS pr (cshut (cspL vs)), l) := by
  by_cases hl : vs.length ≤ 16
  · rw [if_neg (by omega)]
    exact run_par _ pr [] _ l (ctxt_sg vs) (crun_all vs h hl)
  · rw [if_pos (by omega)]
    have hv : vs = vs.take 16 ++ vs.drop 16 := (List.take_append_drop 16 vs).symm
    have ht : (vs.take 16).length = 16 := by rw [List.length_take]; omega
    have hd : (vs.drop 16).length ≠ 0 := by rw [List.length_drop]; omega
    generalize vs.take 16 = a at hv ht
    generalize vs.drop 16 = c at hv hd
    subst hv
    have ha : okV a := fun x hx => h x (by simp [hx])
    cases c with
    | nil => exact absurd rfl hd
    | cons z r =>
      cases a with
      | nil => simp at ht
      | cons v q =>
        have e : ctxt (v :: q ++ z :: r) = ctxt (v :: q) ++ (59 :: (cnum z ++ crest r)) := by
          simp [ctxt, crest]
        rw [e, runS_app, run_par _ pr [] _ l (ctxt_sg _) (crun_all _ ha (by omega)), runS, one_par _ _ 59 (by decide) (by decide), cstp_full ha ht, if_neg (by decide), List.append_nil]
        refine run_spo _ l (fun b hb => ?_)
        rcases List.mem_append.1 hb with hb | hb
        · exact cnum_sg z b hb
        · exact crest_sg r b hb
theorem one_priv (b : UInt8) (h1 : 60 ≤ b.toNat) (h2 : b.toNat ≤ 63) : oneS (begS 3) b = (parS b [], []) := by
  rw [one_of (by omega) (by omega) (.inl rfl)]
  unfold goeS
  rw [if_neg (by decide), if_neg (by decide), if_neg (by decide), if_pos (by exact Or.inl rfl), if_pos ⟨h1, h2⟩]; rfl
/-- a private marker's bytes -/
def prB (pr : UInt8) : List UInt8 := if pr = 0 then [] else [pr]
theorem long_txt (vs : List Int) (h : 16 < vs.length) : ctxt vs ≠ [] := by
  cases vs with
  | nil => simp at h
  | cons v r =>
    cases r with
    | nil => simp at h
    | cons z r => simp [ctxt, crest]
theorem run_csiP (pr : UInt8) (hp : pr = 0 ∨ (60 ≤ pr.toNat ∧ pr.toNat ≤ 63)) (vs : List Int) (l : List EV) (h : okV vs) : runS (begS 3, l) (prB pr ++ ctxt vs) = (csiP pr vs, l) := by
  unfold csiP prB
  rcases hp with rfl | hp
  · rw [if_pos rfl, List.nil_append, run_ent _ _ (ctxt_sg vs)]
    by_cases e : ctxt vs = []
    · have : ¬ 16 < vs.length := fun hx => long_txt vs hx e
      rw [if_pos e, if_neg this, if_pos ⟨rfl, e⟩]
    · rw [if_neg e, run_pars 0 vs l h, if_neg (fun hx : _ ∧ _ => e hx.2)]
  · have hne : pr ≠ 0 := by rintro rfl; simp at hp
    rw [if_neg hne, List.singleton_append, runS, one_priv pr hp.1 hp.2, List.append_nil, run_pars pr vs l h, if_neg (fun hx : _ ∧ _ => hne hx.1)]
/-- behind the intermediate characters -/
def csiI (p : PS) (sg : List UInt8) : PS := if sg = [] then p else if p.bad = true ∨ 2 < sg.length then spoS 5 else { p with st := 5, it := ⟨sg.toArray⟩ }
theorem sgn_one (p : PS) (b : UInt8) (hp : p.st = 3 ∨ p.st = 4 ∨ p.st = 5) (h1 : 32 ≤ b.toNat) (h2 : b.toNat ≤ 47) : oneS p b = (if p.st = 3 then { begS 5 with it := bs1 b } else sigS { p with st := 5 } b, []) := by
  rw [one_of h1 (by omega) hp]
  unfold goeS
  rw [if_neg (by omega), if_neg (by omega), if_neg (by omega)]
  rcases hp with e | e | e
  · rw [if_pos (by omega), if_neg (by omega), if_neg (by omega), if_pos h2, if_pos e, e]; rfl
  · rw [if_neg (by omega), if_pos (by omega), if_neg (by omega), if_neg (by omega), if_pos h2, if_neg (by omega), e]; rfl
  · rw [if_neg (by omega), if_neg (by omega), if_pos (by omega), if_neg (by omega), if_pos h2, if_neg (by omega)]
    have : ({ p with st := 5 } : PS) = p := by cases p; simp only at e; subst e; rfl
    rw [this]
theorem run_sgn (sg : List UInt8) (p : PS) (l : List EV) (hp : p = begS 3 ∨ ((p.st = 4) ∧ (p.it = nos) ∧ p.bad = false) ∨ p = spoS 4) (hs : ∀ b ∈ sg, 32 ≤ b.toNat ∧ b.toNat ≤ 47) (hl : sg.length ≤ 3) :
    runS (p, l) sg = (csiI p sg, l) := by
  have hst : p.st = 3 ∨ p.st = 4 ∨ p.st = 5 := by
    rcases hp with rfl | h | rfl
    · exact .inl rfl
    · exact .inr (.inl h.1)
    · exact .inr (.inl rfl)
  have five : ∀ (q : PS) (b : UInt8), q.st = 5 → 32 ≤ b.toNat ∧ b.toNat ≤ 47 → oneS q b = (sigS q b, []) := fun q b e hb => by
    rw [sgn_one q b (.inr (.inr e)) hb.1 hb.2, if_neg (by omega)]
    have : ({ q with st := 5 } : PS) = q := by cases q; simp only at e; subst e; rfl
    rw [this]
  have spo : ∀ (b : UInt8), sigS (spoS 5) b = spoS 5 := fun b => by unfold sigS; rw [if_pos (show (spoS 5).bad = true ∨ (spoS 5).it.size = 2 from Or.inl rfl)]; rfl
  match sg, hs, hl with
  | [], _, _ => rfl
  | a :: r, hs, hl =>
    have ha := hs a (by simp)
    rw [runS, sgn_one p a hst ha.1 ha.2, List.append_nil]
    have h0 : (if p.st = 3 then ({ begS 5 with it := bs1 a } : PS) else sigS { p with st := 5 } a) = if p.bad = true then spoS 5 else { p with st := 5, it := bs1 a } := by
      rcases hp with rfl | h | rfl
      · rfl
      · rw [if_neg (by omega)]
        unfold sigS
        rw [if_neg (by show ¬ (p.bad = true ∨ p.it.size = 2); rw [h.2.1, h.2.2]; decide), if_neg (by rw [h.2.2]; decide)]
        show ({ p with st := 5, it := p.it ++ bs1 a } : PS) = _
        rw [h.2.1]; rfl
      · rfl
    show runS ((if p.st = 3 then ({ begS 5 with it := bs1 a } : PS) else sigS { p with st := 5 } a), l) r = _
    rw [h0]
    unfold csiI
    rw [if_neg (show ¬ (a :: r = []) by simp)]
    by_cases hb : p.bad = true
    · rw [if_pos hb, if_pos (Or.inl hb)]
      have : ∀ (r : List UInt8), (∀ b ∈ r, 32 ≤ b.toNat ∧ b.toNat ≤ 47) → runS (spoS 5, l) r = (spoS 5, l) := fun r => by
        induction r with
        | nil => intro _; rfl
        | cons b r ih =>
          intro hr
          rw [runS, five _ b rfl (hr b (by simp)), spo, List.append_nil]
          exact ih (fun x hx => hr x (by simp [hx]))
      exact this r (fun x hx => hs x (by simp [hx]))
    · rw [if_neg hb]
      have hbf : p.bad = false := by simpa using hb
      match r, hs, hl with
      | [], _, _ => rw [if_neg (show ¬ (p.bad = true ∨ 2 < [a].length) by rw [hbf]; simp)]; rfl
      | b :: r, hs, hl =>
        have hb2 := hs b (by simp)
        rw [runS, five _ b rfl hb2, List.append_nil]
        have h1 : sigS ({ p with st := 5, it := bs1 a } : PS) b = { p with st := 5, it := ⟨#[a, b]⟩ } := by
          unfold sigS
          rw [if_neg (by show ¬ (p.bad = true ∨ (1 : Nat) = 2); rw [hbf]; decide)]; rfl
        show runS (sigS ({ p with st := 5, it := bs1 a } : PS) b, l) r = _
        rw [h1]
        match r, hs, hl with
        | [], _, _ => rw [if_neg (by rw [hbf]; simp)]; rfl
        | c :: r, hs, hl =>
          have hc := hs c (by simp)
          obtain rfl : r = [] := by
            cases r with
            | nil => rfl
            | cons _ _ => simp at hl
          rw [runS, five _ c rfl hc, List.append_nil, if_pos (by simp)]
          have h2 : sigS ({ p with st := 5, it := ⟨#[a, b]⟩ } : PS) c = spoS 5 := by
            unfold sigS
            rw [if_pos (show _ ∨ (⟨#[a, b]⟩ : ByteArray).size = 2 from Or.inr rfl)]
          show runS (sigS ({ p with st := 5, it := ⟨#[a, b]⟩ } : PS) c, l) [] = _
          rw [h2]; rfl
theorem one_fin (p : PS) (f : UInt8) (hp : p.st = 3 ∨ p.st = 4 ∨ p.st = 5) (h1 : 64 ≤ f.toNat) (h2 : f.toNat ≤ 126) : oneS p f = tolS p (csE p f) := by
  rw [one_of (by omega) (by omega) hp]
  unfold goeS
  rw [if_neg (by omega), if_neg (by omega), if_neg (by omega)]
  have hf : finS p f = tolS p (csE p f) := by unfold finS; rw [if_pos (by omega)]
  rcases hp with e | e | e
  · rw [if_pos (by omega), if_neg (by omega), if_neg (by omega), if_neg (by omega), hf]
  · rw [if_neg (by omega), if_pos (by omega), if_neg (by omega), if_neg (by omega), if_neg (by omega), hf]
  · rw [if_neg (by omega), if_neg (by omega), if_pos (by omega), if_neg (by omega), if_neg (by omega), hf]
/-- what a CSI sequence brings about -/
def csiL (pr : UInt8) (vs : List Int) (sg : List UInt8) (f : UInt8) : List EV := if 16 < vs.length ∨ 2 < sg.length then [] else [⟨4, 0, pr, f, cshut (cspL vs), ⟨sg.toArray⟩, nos⟩]
theorem ctxt_nil {vs : List Int} (h : ctxt vs = []) : cshut (cspL vs) = [] := by
  cases vs with
  | nil => rfl
  | cons v r =>
    have h2 : cnum v = [] ∧ crest r = [] := by simpa [ctxt] using h
    have h3 : r = [] := by
      cases r with
      | nil => rfl
      | cons z r => have := h2.2; simp [crest] at this
    subst h3
    have h4 : v = -1 := Classical.byContradiction fun hx => by
      have := h2.1
      unfold cnum at this
      rw [if_neg hx, cdec] at this
      split at this <;> simp at this
    subst h4; rfl
theorem run_csi (pr : UInt8) (hp : pr = 0 ∨ (60 ≤ pr.toNat ∧ pr.toNat ≤ 63)) (vs : List Int) (h : okV vs) (sg : List UInt8) (hs : ∀ b ∈ sg, 32 ≤ b.toNat ∧ b.toNat ≤ 47) (hl : sg.length ≤ 3) (f : UInt8) (h1 : 64 ≤ f.toNat) (h2 : f.toNat ≤ 126) :
    runS (begS 0, []) (27 :: 91 :: (prB pr ++ ctxt vs ++ sg ++ [f, 122])) = (begS 0, csiL pr vs sg f ++ [prE 122]) := by
  rw [show (27 :: 91 :: (prB pr ++ ctxt vs ++ sg ++ [f, 122])) = [27, 91] ++ ((prB pr ++ ctxt vs) ++ (sg ++ [f, 122])) by simp, runS_app]
  have h0 : runS (begS 0, []) [27, 91] = (begS 3, []) := rfl
  rw [h0, runS_app, run_csiP pr hp vs [] h, runS_app]
  have hq : csiP pr vs = begS 3 ∨ (((csiP pr vs).st = 4) ∧ ((csiP pr vs).it = nos) ∧ (csiP pr vs).bad = false) ∨ csiP pr vs = spoS 4 := by
    unfold csiP
    split
    · exact .inr (.inr rfl)
    · split
      · exact .inl rfl
      · exact .inr (.inl ⟨rfl, rfl, rfl⟩)
  rw [run_sgn sg _ [] hq hs hl]
  have hst : (csiI (csiP pr vs) sg).st = 3 ∨ (csiI (csiP pr vs) sg).st = 4 ∨ (csiI (csiP pr vs) sg).st = 5 := by
    unfold csiI
    split
    · rcases hq with e | e | e
      · rw [e]; exact .inl rfl
      · exact .inr (.inl e.1)
      · rw [e]; exact .inr (.inl rfl)
    · split
      · exact .inr (.inr rfl)
      · exact .inr (.inr rfl)
  have hfin : oneS (csiI (csiP pr vs) sg) f = (begS 0, csiL pr vs sg f) := by
    rw [one_fin _ f hst h1 h2]
    unfold tolS csiL
    by_cases hv : 16 < vs.length
    · rw [if_pos (Or.inl hv)]
      have : (csiI (csiP pr vs) sg).bad = true := by
        unfold csiP csiI
        rw [if_pos hv]
        split
        · rfl
        · rw [if_pos (show (spoS 4).bad = true ∨ 2 < sg.length from Or.inl rfl)]; rfl
      rw [if_pos this]
    · have hpb : (csiP pr vs).bad = false := by
        unfold csiP
        rw [if_neg hv]
        split <;> rfl
      by_cases h3 : 2 < sg.length
      · rw [if_pos (Or.inr h3)]
        have : (csiI (csiP pr vs) sg).bad = true := by
          unfold csiI
          rw [if_neg (by intro e; rw [e] at h3; simp at h3), if_pos (Or.inr h3)]; rfl
        rw [if_pos this]
      · rw [if_neg (show ¬ (16 < vs.length ∨ 2 < sg.length) from fun h => h.elim hv h3)]
        have e1 : (csiI (csiP pr vs) sg).bad = false ∧ (csiI (csiP pr vs) sg).pr = pr ∧ (csiI (csiP pr vs) sg).ps = cshut (cspL vs) ∧ (csiI (csiP pr vs) sg).it = ⟨sg.toArray⟩ := by
          have e2 : (csiP pr vs).pr = pr ∧ (csiP pr vs).ps = cshut (cspL vs) ∧ (csiP pr vs).it = nos := by
            unfold csiP
            rw [if_neg hv]
            split
            · rename_i hx
              refine ⟨hx.1.symm, ?_, rfl⟩
              rw [ctxt_nil hx.2]; rfl
            · exact ⟨rfl, rfl, rfl⟩
          unfold csiI
          by_cases hg : sg = []
          · rw [if_pos hg]
            refine ⟨hpb, e2.1, e2.2.1, ?_⟩
            rw [e2.2.2, hg]; rfl
          · rw [if_neg hg, if_neg (by rw [hpb]; simp; omega)]
            exact ⟨hpb, e2.1, e2.2.1, rfl⟩
        rw [if_neg (by rw [e1.1]; decide)]
        unfold csE
        rw [e1.2.1, e1.2.2.1, e1.2.2.2]
  show runS ((oneS (csiI (csiP pr vs) sg) f).1, [] ++ (oneS (csiI (csiP pr vs) sg) f).2) [122] = _
  rw [hfin]
  rw [show ([] : List EV) ++ (begS 0, csiL pr vs sg f).2 = csiL pr vs sg f from rfl, runS_ev]
  rfl
end Go.Proofs.YtefkbdmgplfgoaaDoor.Sta
namespace Go.Proofs.YtefkbdmgplfgoaaDoor.Sta
open Go.RowKit Utf Par

theorem cdec_one {u : Nat} (h : u < 10) : cdec u = [UInt8.ofNat (48 + u)] := by rw [cdec, dif_pos h]
theorem app_ba (a b : List UInt8) : (⟨a.toArray⟩ : ByteArray) ++ (⟨b.toArray⟩ : ByteArray) = ⟨(a ++ b).toArray⟩ := by
  apply ByteArray.ext
  rw [ByteArray.data_append]
  simp
theorem cdec_len (u : Nat) : (cdec u).length ≤ u + 1 := by
  induction u using Nat.strongRecOn with
  | _ u ih =>
    by_cases hs : u < 10
    · rw [cdec_one hs]; simp
    · rw [cdec, dif_neg hs, List.length_append, List.length_singleton]
      have := ih (u / 10) (by omega)
      omega
theorem cdec_four (u : Nat) (h : u ≤ 9999) : (cdec u).length ≤ 4 := by
  by_cases h1 : u < 10
  · rw [cdec_one h1]; simp
  · rw [cdec, dif_neg h1]
    by_cases h2 : u / 10 < 10
    · rw [cdec_one h2]; simp
    · rw [cdec, dif_neg h2]
      by_cases h3 : u / 10 / 10 < 10
      · rw [cdec_one h3]; simp
      · rw [cdec, dif_neg h3, cdec_one (by omega)]; simp
theorem cnum_four (z : Int) (h : -1 ≤ z ∧ z ≤ 9999) : (cnum z).length ≤ 4 := by
  unfold cnum
  split
  · simp
  · exact cdec_four _ (by omega)
theorem ctxt_len (vs : List Int) (h : okV vs) : (ctxt vs).length ≤ 5 * vs.length := by
  have hr : ∀ r : List Int, okV r → (crest r).length ≤ 5 * r.length := fun r => by
    induction r with
    | nil => intro _; simp [crest]
    | cons z r ih =>
      intro hz
      have h1 := cnum_four z (hz z (by simp))
      have h2 := ih (fun x hx => hz x (by simp [hx]))
      show (59 :: cnum z ++ crest r).length ≤ _
      simp only [List.length_append, List.length_cons]
      omega
  cases vs with
  | nil => simp [ctxt]
  | cons v r =>
    have h1 := cnum_four v (h v (by simp))
    have h2 := hr r (fun x hx => h x (by simp [hx]))
    show (cnum v ++ crest r).length ≤ _
    simp only [List.length_append, List.length_cons]
    omega
set_option maxRecDepth 100000 in
set_option maxHeartbeats 2000000 in
theorem ldigits_small (u : Nat) (hu : u < 10) (w : World) : Calls Tryd.prog 14 #[.int .i64 (u : Int)] w fun e w' => e = .returned (.string ⟨(cdec u).toArray⟩) ∧ Below w.heap.size w w' := by
  have d1 : decide ((u : Int) < 10) = true := decide_eq_true (by omega)
  have hcv := str_of (w.alloc (.cells #[.int .u8 (48 + (u : Int))] 5)) (some ⟨w.heap.size, 0, none⟩) 1 [UInt8.ofNat (48 + u)] (by
    have e : ((UInt8.ofNat (48 + u)).toNat : Int) = 48 + (u : Int) := by rw [UInt8.toNat_ofNat']; omega
    rw [show cB [UInt8.ofNat (48 + u)] = [.int .u8 ((UInt8.ofNat (48 + u)).toNat : Int)] from rfl, e]
    exact Rd.one _ _ _)
  rw [show [UInt8.ofNat (48 + u)].length = 1 from rfl] at hcv
  rw [cdec_one hu]
  obtain ⟨b, hb⟩ : ∃ b, b = UInt8.ofNat (48 + u) := ⟨_, rfl⟩
  rw [← hb] at hcv ⊢
  clear hb
  go_enter Tryd.func14, Tryd.ntmps14
  go_wp2
  go_ret
  exact ⟨rfl, below_box _ _⟩
set_option maxRecDepth 100000 in
set_option maxHeartbeats 2000000 in
theorem ldigits_any (u : Nat) : u < 9223372036854775807 → ∀ w : World, Calls Tryd.prog 14 #[.int .i64 (u : Int)] w fun e w' => e = .returned (.string ⟨(cdec u).toArray⟩) ∧ Below w.heap.size w w' := by
  induction u using Nat.strongRecOn with
  | _ u ih =>
    intro hu w
    by_cases hs : u < 10
    · exact ldigits_small u hs w
    · have d1 : decide ((u : Int) < 10) = false := decide_eq_false (by omega)
      have H1 := Lib.hid (ih (u / 10) (by omega) (by omega) w)
      have H2 := Lib.hid (ldigits_small (u % 10) (by omega))
      have hq : (u : Int) / 10 = ((u / 10 : Nat) : Int) := by omega
      have hr : (u : Int) % 10 = ((u % 10 : Nat) : Int) := by omega
      obtain ⟨q, hqq⟩ : ∃ q, q = u / 10 := ⟨_, rfl⟩
      obtain ⟨r, hrr⟩ : ∃ r, r = u % 10 := ⟨_, rfl⟩
      have hd : cdec u = cdec q ++ cdec r := by
        rw [show cdec r = [UInt8.ofNat (48 + r)] from cdec_one (by omega), cdec, dif_neg hs, ← hqq, ← hrr]
      rw [hd]
      rw [← hqq] at H1 hq
      rw [← hrr] at H2 hr
      have hq2 : q < 9223372036854775807 := by omega
      have hr2 : r < 10 := by omega
      have hlen : ¬ 9223372036854775807 < (cdec q).length + (cdec r).length := by
        have h1 := cdec_len q
        have h2 := cdec_len r
        omega
      clear ih hd hqq hrr
      go_enter Tryd.func14, Tryd.ntmps14
      go_wp2_with fail
      refine H1.out.mono ?_
      rintro e w1 ⟨rfl, hb1⟩
      go_wp2_with fail
      refine (H2.out _).mono ?_
      rintro e w2 ⟨rfl, hb2⟩
      go_wp2
      go_ret
      refine ⟨?_, up hb1 hb2⟩
      rw [← app_ba]; rfl
/-- the law's row of parameters, one number each -/
def PQ (base : Nat) (w : World) (u : Value) (zs : List Int) : Prop :=
  ∃ us, w.ownsRow base 47 1 u zs.length us ∧ us.length = zs.length ∧ ∀ (j : Nat) (x : Value) (z : Int), us[j]? = some x → zs[j]? = some z → RI w x [z] ∧ Nb base w u x
theorem PQ.nil (base : Nat) (w : World) : PQ base w (.slice none 0 0) [] := ⟨[], World.ownsRow_nil _ _ _ _, rfl, fun j x z h => by simp at h⟩
theorem PQ.keep {base : Nat} {w w' : World} {u : Value} {zs : List Int} (h : PQ base w u zs) (hb : Below w.heap.size w w') : PQ base w' u zs := by
  obtain ⟨us, h1, h2, h3⟩ := h
  exact ⟨us, own_below h1 hb, h2, fun j x z hx hz => ⟨(h3 j x z hx hz).1.keep hb, fun ad n c e => ⟨((h3 j x z hx hz).2 ad n c e).1, Nat.lt_of_lt_of_le ((h3 j x z hx hz).2 ad n c e).2.1 hb.size, ((h3 j x z hx hz).2 ad n c e).2.2⟩⟩⟩
theorem PQ.rl {base : Nat} {w : World} {u : Value} {zs : List Int} (h : PQ base w u zs) : RL w u (cspL zs) := by
  obtain ⟨us, h1, h2, h3⟩ := h
  exact RL.grew h1 (by simp [cspL, h2]) (fun j x p hx hp => by
    unfold cspL at hp
    rw [List.getElem?_map] at hp
    cases hz : zs[j]? with
    | none => rw [hz] at hp; cases hp
    | some z => rw [hz] at hp; cases hp; exact (h3 j x z hx hz).1)
/-- one block below the rows' own has changed -/
theorem PQ.set {base T : Nat} {w w' : World} {u : Value} {zs : List Int} (h : PQ base w u zs) (hg : w.grownBy w' (some T)) (hT : T < base) : PQ base w' u zs := by
  obtain ⟨us, h1, h2, h3⟩ := h
  refine ⟨us, h1.kept hg (.inr (fun e => ?_)), h2, fun j x z hx hz => ?_⟩
  · have := (h1.lt _ e).1; omega
  · obtain ⟨r1, r2⟩ := h3 j x z hx hz
    exact ⟨RI.grownBy r1 hg (fun ad n c e => fun e2 => by have := (r2 ad n c e).2.2; injection e2 with e2; omega), fun ad n c e => ⟨(r2 ad n c e).1, Nat.lt_of_lt_of_le (r2 ad n c e).2.1 hg.size, (r2 ad n c e).2.2⟩⟩
/-- one more -/
theorem PQ.app {base : Nat} {wr w' : World} {Au : Option Addr} {k cu : Nat} {zs : List Int} {z : Int} {us : List Value} (hbw : base ≤ wr.heap.size) (hk : k = zs.length)
    (hown : wr.ownsRow base 47 1 (.slice Au k cu) k us) (hul : us.length = zs.length)
    (hri : ∀ (j : Nat) (x : Value) (y : Int), us[j]? = some x → zs[j]? = some y → RI wr x [y] ∧ Nb base wr (.slice Au k cu) x) {v' : Value}
    (ho : w'.ownsRow base 47 1 v' (k + 1) (us ++ [.slice (some ⟨wr.heap.size, 0, none⟩) 1 1]))
    (hg : ((wr.alloc (.cells #[.int .i64 z] 3)).alloc (.cells #[.slice (some ⟨wr.heap.size, 0, none⟩) 1 1] 47)).grownBy w' (Value.slice Au k cu).ownBlock)
    (hn : v'.ownBlock = (Value.slice Au k cu).ownBlock ∨ v'.ownBlock = some ((wr.alloc (.cells #[.int .i64 z] 3)).alloc (.cells #[.slice (some ⟨wr.heap.size, 0, none⟩) 1 1] 47)).heap.size) : PQ base w' v' (zs ++ [z]) := by
  refine ⟨us ++ [.slice (some ⟨wr.heap.size, 0, none⟩) 1 1], by rw [List.length_append, ← hk]; exact ho, by simp [hul], fun j x z' hj hz' => ?_⟩
  have hk2 : Below wr.heap.size wr ((wr.alloc (.cells #[.int .i64 z] 3)).alloc (.cells #[.slice (some ⟨wr.heap.size, 0, none⟩) 1 1] 47)) := up (below_box wr _) (below_box _ _)
  have hsz : ((wr.alloc (.cells #[.int .i64 z] 3)).alloc (.cells #[.slice (some ⟨wr.heap.size, 0, none⟩) 1 1] 47)).heap.size = wr.heap.size + 1 + 1 := by rw [World.size_alloc, World.size_alloc]
  have hgz := hg.size
  have hob := hown.lt
  have new : ∀ ad : Addr, ad.block < wr.heap.size + 1 → some ad.block ≠ (Value.slice Au k cu).ownBlock → base ≤ ad.block → some ad.block ≠ v'.ownBlock ∧ ad.block < w'.heap.size ∧ base ≤ ad.block := fun ad h1 h2 h3 => by
    refine ⟨?_, by omega, h3⟩
    rcases hn with e | e
    · rw [e]; exact h2
    · rw [e]; intro x; injection x with x; omega
  have old : some wr.heap.size ≠ (Value.slice Au k cu).ownBlock := fun e => by have := (hob _ e.symm).2; omega
  have hri2 := RI.lit wr [z] 1 rfl (by decide) 3
  rcases Nat.lt_or_ge j us.length with h | h
  · rw [List.getElem?_append_left h] at hj
    rw [List.getElem?_append_left (by omega)] at hz'
    obtain ⟨r1, r2⟩ := hri j x z' hj hz'
    exact ⟨RI.grownBy (r1.keep hk2) hg (fun ad m d e => (r2 ad m d e).1), fun ad m d e => new ad (by have := (r2 ad m d e).2.1; omega) (r2 ad m d e).1 (r2 ad m d e).2.2⟩
  · have hj0 : j = us.length := by
      have := (List.getElem?_eq_some_iff.1 hj).1
      simp at this
      omega
    subst hj0
    rw [List.getElem?_append_right (Nat.le_refl _), Nat.sub_self] at hj
    rw [hul, List.getElem?_append_right (Nat.le_refl _), Nat.sub_self] at hz'
    simp at hj hz'
    subst hj; subst hz'
    exact ⟨RI.grownBy (hri2.keep (below_box _ (.cells #[.slice (some ⟨wr.heap.size, 0, none⟩) 1 1] 47))) hg (fun ad m d e => by cases e; exact old), fun ad m d e => by cases e; exact new ⟨wr.heap.size, 0, none⟩ (by show wr.heap.size < _; omega) old hbw⟩

/-- the event that is wanted, in its box -/
def wE (pr : UInt8) (f : UInt8) (v : Value) (it : ByteArray) : List Value := [.int .i64 4, .int .i64 0, .int .u8 (pr.toNat : Int), .int .u8 (f.toNat : Int), v, .string it, .string ⟨#[]⟩]
/-- the private marker -/
def prV (p : UInt8) : UInt8 := if p.toNat % 5 = 0 then 0 else UInt8.ofNat (59 + p.toNat % 5)
def fiV (f : UInt8) : UInt8 := UInt8.ofNat (64 + f.toNat % 63)
theorem prV_ok (p : UInt8) : prV p = 0 ∨ (60 ≤ (prV p).toNat ∧ (prV p).toNat ≤ 63) := by
  unfold prV
  split
  · exact .inl rfl
  · right; rw [UInt8.toNat_ofNat']; omega
theorem fiV_ok (f : UInt8) : 64 ≤ (fiV f).toNat ∧ (fiV f).toNat ≤ 126 := by unfold fiV; rw [UInt8.toNat_ofNat']; omega
/-- the parameters that are wanted -/
def PW (base : Nat) (w : World) (u : Value) (vs : List Int) : Prop := (vs = [-1] ∧ u = .slice none 0 0) ∨ (vs ≠ [-1] ∧ PQ base w u vs)
theorem csp_one {vs : List Int} : cspL vs = [[-1]] ↔ vs = [-1] := by
  constructor
  · intro h
    cases vs with
    | nil => cases h
    | cons a r =>
      cases r with
      | nil => simp [cspL] at h; rw [h]
      | cons b r => simp [cspL] at h
  · intro h; rw [h]; rfl
theorem PW.rl {base : Nat} {w : World} {u : Value} {vs : List Int} (h : PW base w u vs) : RL w u (cshut (cspL vs)) := by
  rcases h with ⟨h1, rfl⟩ | ⟨h1, h2⟩
  · unfold cshut; rw [if_pos (csp_one.2 h1)]; exact RL.nil w
  · unfold cshut; rw [if_neg (fun e => h1 (csp_one.1 e))]; exact h2.rl
theorem PW.keep {base : Nat} {w w' : World} {u : Value} {vs : List Int} (h : PW base w u vs) (hb : Below w.heap.size w w') : PW base w' u vs := h.imp id (fun h => ⟨h.1, h.2.keep hb⟩)
theorem PW.set {base T : Nat} {w w' : World} {u : Value} {vs : List Int} (h : PW base w u vs) (hg : w.grownBy w' (some T)) (hT : T < base) : PW base w' u vs := h.imp id (fun h => ⟨h.1, h.2.set hg hT⟩)
def sgV (s : UInt8) : UInt8 := UInt8.ofNat (32 + s.toNat % 16)
theorem sgV_ok (s : UInt8) : 32 ≤ (sgV s).toNat ∧ (sgV s).toNat ≤ 47 := by unfold sgV; rw [UInt8.toNat_ofNat']; omega
theorem sgl_snoc (sg : List UInt8) (k : Nat) (b : UInt8) (h : sg[k]? = some b) : (sg.take (k + 1)).map sgV = (sg.take k).map sgV ++ [sgV b] := by
  rw [List.take_add_one, h]; simp
theorem ba_len (B : ByteArray) : B.data.toList.length = B.size := by simp
def sepB (k : Nat) : List UInt8 := if k = 0 then [] else [59]
theorem ctxt_app (l : List Int) (k : Nat) (v : Int) (h : l.length = k) : ctxt (l ++ [v]) = ctxt l ++ sepB k ++ cnum v := by
  rw [ctxt_snoc]
  unfold sepB
  by_cases hk : k = 0
  · have hl : l = [] := List.eq_nil_of_length_eq_zero (by omega)
    rw [if_pos hl, if_pos hk, hl]; rfl
  · have hl : l ≠ [] := by intro e; rw [e] at h; exact hk h.symm
    rw [if_neg hl, if_neg hk, List.append_assoc]; rfl
def vaV (z : Int) : Int := z % 10001 - 1
theorem min_20 (n : Nat) : (if (20 : Int) < (n : Int) then (20 : Int) else (n : Int)) = ((min n 20 : Nat) : Int) := by split <;> omega
set_option maxRecDepth 100000 in
set_option maxHeartbeats 8000000 in
theorem csi_any (A0 A1 : Option Addr) (n0 c0 n1 c1 : Nat) (zs : List Int) (p f : UInt8) (sg : List UInt8) (tx : ByteArray) (w : World) (r0 : Rd w A0 (zs.map (Value.int .u16))) (l0 : zs.length = n0) (z0 : ∀ z ∈ zs, 0 ≤ z ∧ z ≤ 65535) (b0 : n0 ≤ c0 ∧ c0 ≤ maxLen)
    (r1 : Rd w A1 (cB sg)) (l1 : sg.length = n1) (b1 : n1 ≤ c1 ∧ c1 ≤ maxLen) (hm : Mk w) (hf : Tf w) :
    Calls Tryd.prog 5 #[.agg #[.slice A0 n0 c0, .int .u8 (p.toNat : Int), .slice A1 n1 c1, .int .u8 (f.toNat : Int), .string tx]] w fun e w' => e = .returned (.bool true) ∧ Below w.heap.size w w' := by
  have hx0 := Box.new w #[.slice A0 n0 c0, .int .u8 (p.toNat : Int), .slice A1 n1 c1, .int .u8 (f.toNat : Int), .string tx] 42
  have hb0 := below_box w (.cells #[.slice A0 n0 c0, .int .u8 (p.toNat : Int), .slice A1 n1 c1, .int .u8 (f.toNat : Int), .string tx] 42)
  have HW := Lib.hid (works_any (w.alloc (.cells #[.slice A0 n0 c0, .int .u8 (p.toNat : Int), .slice A1 n1 c1, .int .u8 (f.toNat : Int), .string tx] 42)) (hm.keep hb0) (hf.keep hb0))
  have HM := Lib.hid hm
  have HF := Lib.hid hf
  have HX0 := Lib.hid hx0
  have HB0 := Lib.hid hb0
  have R0 := Lib.hid r0
  have R1 := Lib.hid r1
  have L0 := Lib.hid l0
  have L1 := Lib.hid l1
  have Z0 := Lib.hid z0
  have hc0 : (n0 : Int) ≤ (c0 : Int) := by omega
  have hc1 : (n1 : Int) ≤ (c1 : Int) := by omega
  have p0 : (0 : Int) ≤ (p.toNat : Int) := by omega
  have p1 : (p.toNat : Int) ≤ 255 := by have := p.toNat_lt; omega
  have f0 : (0 : Int) ≤ (f.toNat : Int) := by omega
  have f1 : (f.toNat : Int) ≤ 255 := by have := f.toNat_lt; omega
  obtain ⟨pm, hpm, hpm2⟩ : ∃ pm : Nat, (p.toNat : Int).tmod 5 = (pm : Int) ∧ pm = p.toNat % 5 := ⟨p.toNat % 5, by rw [Int.tmod_eq_emod_of_nonneg p0]; rfl, rfl⟩
  obtain ⟨fm, hfm, hfm2⟩ : ∃ fm : Nat, (f.toNat : Int).tmod 63 = (fm : Int) ∧ fm = f.toNat % 63 := ⟨f.toNat % 63, by rw [Int.tmod_eq_emod_of_nonneg f0]; rfl, rfl⟩
  have hfi : (64 : Int) + (fm : Int) = ((fiV f).toNat : Int) := by unfold fiV; rw [UInt8.toNat_ofNat']; omega
  have pm5 : pm < 5 := by omega
  have fm5 : fm < 63 := by omega
  have HPM := Lib.hid hpm2
  have HFI := Lib.hid hfi
  clear hm hf hx0 hb0 r0 r1 l0 l1 z0 b0 b1 hpm2 hfm2 hfi
  go_enter Tryd.func5, Tryd.ntmps5
  go_upto_region 5 with (go_at_call 7; refine HW.out.mono ?_; rintro e w1 ⟨rfl, hb1⟩; have HX1 := Lib.hid (HX0.out.keep hb1); have x3 := HX1.out.cell 3 _ rfl; have HB1 := Lib.hid (up HB0.out hb1); clear hb1)
  have hx2 := Box.new w1 #[.int .i64 4, .int .i64 0, .int .u8 0, .int .u8 (64 + (fm : Int)), .slice none 0 0, .string ⟨#[]⟩, .string ⟨#[]⟩] 38
  have hb2 := below_box w1 (.cells #[.int .i64 4, .int .i64 0, .int .u8 0, .int .u8 (64 + (fm : Int)), .slice none 0 0, .string ⟨#[]⟩, .string ⟨#[]⟩] 38)
  have HS := Lib.hid (HX1.out.keep hb2)
  have HB2 := Lib.hid (up HB1.out hb2)
  have hbt : w.heap.size < w1.heap.size := HX1.out.1
  have ht2 : (w1.alloc (.cells #[.int .i64 4, .int .i64 0, .int .u8 0, .int .u8 (64 + (fm : Int)), .slice none 0 0, .string ⟨#[]⟩, .string ⟨#[]⟩] 38)).heap.size = w1.heap.size + 1 := World.size_alloc ..
  rw [show (#[.int .i64 4, .int .i64 0, .int .u8 0, .int .u8 (64 + (fm : Int)), .slice none 0 0, .string ⟨#[]⟩, .string ⟨#[]⟩] : Array Value).toList = wE 0 (fiV f) (.slice none 0 0) ⟨#[]⟩ from by rw [HFI.out]; rfl] at hx2
  have HT := Lib.hid hx2
  have HT2 := Lib.hid ht2
  clear hx2 hb2 x3 HX1 HX0 HW ht2
  generalize w1.alloc (.cells #[.int .i64 4, .int .i64 0, .int .u8 0, .int .u8 (64 + (fm : Int)), .slice none 0 0, .string ⟨#[]⟩, .string ⟨#[]⟩] 38) = w2 at HS HT HB2 HT2 ⊢
  obtain ⟨T, hT⟩ : ∃ T, T = w1.heap.size := ⟨_, rfl⟩
  rw [← hT] at HT HT2 hbt ⊢
  have hB1s : w.heap.size ≤ T := by rw [hT]; exact HB1.out.size
  clear hT
  have x1 := HS.out.cell 1 _ rfl
  go_upto_if 19 with fail
  go_cut [3] from 20 to 30 (fun v wx => v = .string ⟨(27 :: 91 :: prB (prV p)).toArray⟩ ∧ Box wx T (wE (prV p) (fiV f) (.slice none 0 0) ⟨#[]⟩) ∧ Below T w2 wx)
  case first =>
    by_cases h0 : 0 < pm
    · have h0i : (0 : Int) < (pm : Int) := by omega
      have hpv : (59 : Int) + (pm : Int) = ((prV p).toNat : Int) := by have := HPM.out; unfold prV; rw [if_neg (by omega), UInt8.toNat_ofNat']; omega
      have hpn : prV p ≠ 0 := by intro e; rw [e] at hpv; simp at hpv; omega
      have HPV := Lib.hid hpv
      have HPN := Lib.hid hpn
      have z2 := HT.out.cell 2 _ rfl
      have v2 := HT.out.free 2 (by show 2 < 7; decide)
      clear hpv hpn
      go_upto_region 7 with fail
      have hx3 := HT.out.set 2 (.int .u8 (59 + (pm : Int)))
      have hg3 := grown_set w2 T 2 (.int .u8 (59 + (pm : Int)))
      rw [HPV.out] at hx3 hg3 ⊢
      have hb3 := (Below.refl T w2).grown hg3 (Nat.le_of_lt HT.out.1) (fun kk h => by cases h; exact Nat.le_refl _)
      have HX3 := Lib.hid (show Box (w2.setCell ⟨T, 2, none⟩ (.int .u8 ((prV p).toNat : Int))) T (wE (prV p) (fiV f) (.slice none 0 0) ⟨#[]⟩) from hx3)
      have HB3 := Lib.hid hb3
      generalize w2.setCell ⟨T, 2, none⟩ (.int .u8 ((prV p).toNat : Int)) = w3 at HX3 HB3 ⊢
      clear hx3 hg3 hb3 z2 v2 x1
      have y2 := HX3.out.cell 2 _ rfl
      have hcv := str_of (w3.alloc (.cells #[.int .u8 ((prV p).toNat : Int)] 5)) (some ⟨w3.heap.size, 0, none⟩) 1 [prV p] (Rd.one _ _ _)
      rw [show [prV p].length = 1 from rfl] at hcv
      go_wp2_with fail
      have hb4 := below_box w3 (.cells #[.int .u8 ((prV p).toNat : Int)] 5)
      go_meet
      case rel => exact ⟨by unfold prB; rw [if_neg HPN.out]; rfl, HX3.out.keep hb4, HB3.out.trans (hb4.mono (Nat.le_of_lt HX3.out.1))⟩
    · have h0i : decide ((0 : Int) < (pm : Int)) = false := decide_eq_false (by omega)
      have h0n : decide (0 < pm) = false := decide_eq_false h0
      have hpv : prV p = 0 := by have := HPM.out; unfold prV; rw [if_pos (by omega)]
      have HPV := Lib.hid hpv
      clear hpv x1
      go_wp2_with fail
      go_meet
      case rel => exact ⟨by rw [HPV.out]; rfl, by rw [HPV.out]; exact HT.out, Below.refl _ _⟩
  case rest =>
    obtain ⟨rfl, hxt, hbt2⟩ := hcut
    obtain ⟨w3, hw3⟩ : ∃ w3, w3 = wc := ⟨_, rfl⟩
    subst hw3
    obtain ⟨i0, hi0, hz0, hz1, hz2⟩ := info_parts infoP
    obtain ⟨N, hN⟩ : ∃ N, N = min n0 20 := ⟨_, rfl⟩
    obtain ⟨vs, hvs⟩ : ∃ vs, vs = (zs.take N).map vaV := ⟨_, rfl⟩
    have hvl : vs.length = N := by rw [hvs, List.length_map, List.length_take, L0.out]; omega
    have hok : okV vs := fun x hx => by
      rw [hvs] at hx
      obtain ⟨z, hz, rfl⟩ := List.mem_map.1 hx
      unfold vaV
      omega
    have hN20 : N ≤ 20 := by omega
    have hNi : (if (20 : Int) < (n0 : Int) then (20 : Int) else (n0 : Int)) = (N : Int) := by rw [hN]; split <;> omega
    have hNn : N ≤ n0 := by omega
    have HXT := Lib.hid hxt
    have HBT := Lib.hid hbt2
    have HSX := Lib.hid (HS.out.below hbt2 hbt)
    have HVL := Lib.hid hvl
    have HVS := Lib.hid hvs
    have HOK := Lib.hid hok
    have htb : T < w3.heap.size := hxt.1
    have x0 := HSX.out.cell 0 _ rfl
    clear hxt hbt2 hN hvs hvl hok
    go_upto_region 10 with fail
    clear x0 hNi
    go_wp2_with fail
    go_loopw [3, 6] (fun s i wr => ∃ (k : Nat) (S : ByteArray) (Au : Option Addr) (cu : Nat), k ≤ N ∧ s = .string S ∧ i = .int .i64 k ∧ Hid (S.data.toList = 27 :: 91 :: (prB (prV p) ++ ctxt (vs.take k)) ∧ Box wr T (wE (prV p) (fiV f) (.slice Au k cu) ⟨#[]⟩) ∧ PQ w3.heap.size wr (.slice Au k cu) (vs.take k) ∧ Below T w3 wr)) (fun _ i _ => N - (intOf i).toNat)
    case atStart => exact ⟨0, _, none, 0, by omega, rfl, rfl, by simp [ctxt], HXT.out, PQ.nil _ _, Below.refl _ _⟩
    case round =>
      obtain ⟨k, S, Au, cu, hk, rfl, rfl, hid⟩ := hrel
      by_cases hlt : k < N
      · obtain ⟨hSl, hxt, hpq, hbt3⟩ := hid.out
        obtain ⟨z, hz⟩ := get_some zs k (by rw [L0.out]; omega)
        have hzb := Z0.out z (List.mem_of_getElem? hz)
        have hvk : vs.take (k + 1) = vs.take k ++ [vaV z] := by
          rw [List.take_add_one, HVS.out, List.getElem?_map, List.getElem?_take_of_lt hlt, hz]; rfl
        have hbw : Below w.heap.size w wr := HB2.out.trans ((Below.refl _ _).mono (Nat.le_refl _)) |>.trans ((HBT.out.trans hbt3).mono hB1s)
        obtain ⟨ad, hA, _, hcell⟩ := (R0.out.below hbw) k (.int .u16 z) (by rw [List.getElem?_map, hz]; rfl)
        subst hA
        obtain ⟨m, hm, hmk⟩ : ∃ m : Nat, z.tmod 10001 = (m : Int) ∧ m ≤ 10000 := ⟨(z % 10001).toNat, by rw [Int.tmod_eq_emod_of_nonneg hzb.1]; omega, by omega⟩
        have hva : vaV z = (m : Int) - 1 := by unfold vaV; rw [← hm, Int.tmod_eq_emod_of_nonneg hzb.1]
        have x0 := (HSX.out.below hbt3 hbt).cell 0 _ rfl
        rw [hva] at hvk
        have hvo : okV (vs.take k) := fun x hx => HOK.out x (List.mem_of_mem_take hx)
        have hSz : S.size ≤ 3 + 5 * k := by
          have h1 := ctxt_len (vs.take k) hvo
          have h2 := List.length_take_le k vs
          have h3 : (prB (prV p)).length ≤ 1 := by unfold prB; split <;> simp
          have h4 := congrArg List.length hSl
          rw [ba_len] at h4
          rw [h4]
          simp only [List.length_cons, List.length_append]
          omega
        have HVK := Lib.hid hvk
        have HSL := Lib.hid hSl
        have HXR := Lib.hid hxt
        have HPQ := Lib.hid hpq
        have HB3 := Lib.hid hbt3
        have HBW := Lib.hid hbw
        have k0 : (0 : Int) ≤ (k : Int) := by omega
        have k1 : (k : Int) < (n0 : Int) := by omega
        have m0 : (0 : Int) ≤ (m : Int) := by omega
        have m1 : (m : Int) ≤ 10000 := by omega
        have m2 : (-1 : Int) ≤ (m : Int) - 1 := by omega
        have z1 := hzb.1
        have z2 := hzb.2
        have HTL := Lib.hid (show (vs.take k).length = k by rw [List.length_take, HVL.out]; omega)
        clear hSl hxt hpq hbt3 hid hz hzb hvk hbw hva hvo hmk
        go_upto_if 49 with fail
        go_cut [3] from 50 to 51 (fun v wx => wx = wr ∧ ∃ S1 : ByteArray, v = .string S1 ∧ Hid (S1.data.toList = S.data.toList ++ sepB k) ∧ S1.size ≤ S.size + 1)
        case first =>
          by_cases hk0 : k = 0
          · subst hk0
            go_wp2_with fail
            go_meet
            case rel => exact ⟨rfl, S, rfl, Lib.hid (by rw [show sepB 0 = [] from rfl, List.append_nil]), by omega⟩
          · have hk1 : (0 : Int) < (k : Int) := by omega
            have hk2 : 0 < k := by omega
            go_wp2_with fail
            go_meet
            case rel => exact ⟨rfl, _, rfl, Lib.hid (by unfold sepB; rw [if_neg hk0, Go.Joins.data_append]), by rw [ByteArray.size_append]; exact Nat.le_refl _⟩
        case rest =>
          obtain ⟨rfl, S1, rfl, hS1, hS1n⟩ := hcut
          obtain ⟨wq, hwq⟩ : ∃ wq, wq = wc := ⟨_, rfl⟩
          subst hwq
          go_upto_if 53 with fail
          go_cut [3] from 52 to 57 (fun v wx => Below wq.heap.size wq wx ∧ ∃ S2 : ByteArray, v = .string S2 ∧ Hid (S2.data.toList = S1.data.toList ++ cnum ((m : Int) - 1)))
          case first =>
            by_cases hm0 : m = 0
            · subst hm0
              go_wp2_with fail
              go_meet
              case rel => exact ⟨Below.refl _ _, S1, rfl, Lib.hid (by rw [show cnum (((0 : Nat) : Int) - 1) = [] from rfl, List.append_nil])⟩
            · have hm1 : (1 : Int) ≤ (m : Int) := by omega
              have hm2 : (0 : Int) ≤ (m : Int) - 1 := by omega
              have hm3 : 1 ≤ m := by omega
              have e : ((m - 1 : Nat) : Int) = (m : Int) - 1 := by omega
              have hdg := fun W => ldigits_any (m - 1) (by omega) W
              rw [e] at hdg
              have HDG := Lib.hid hdg
              have hcl : S1.size + (⟨(cdec (m - 1)).toArray⟩ : ByteArray).size ≤ 9223372036854775807 := by
                have h1 := cdec_four (m - 1) (by omega)
                show S1.size + (cdec (m - 1)).length ≤ _
                omega
              have HE := Lib.hid e
              clear hdg e
              go_wp2_with (go_at_call 14; refine (HDG.out _).mono ?_; rintro e w' ⟨rfl, hb'⟩; have HB' := Lib.hid hb'; clear hb')
              go_meet
              case rel => exact ⟨HB'.out, _, rfl, Lib.hid (by rw [Go.Joins.data_append]; unfold cnum; rw [if_neg (by omega), show ((m : Int) - 1).toNat = m - 1 by omega])⟩
          case rest =>
            obtain ⟨hb4, S2, rfl, hS2⟩ := hcut
            obtain ⟨us, hown, hul, hri⟩ := HPQ.out.keep hb4
            rw [HTL.out] at hown
            have hxw := HXR.out.keep hb4
            have hb5 : Below wc.heap.size wc ((wc.alloc (.cells #[.int .i64 ((m : Int) - 1)] 3)).alloc (.cells #[.slice (some ⟨wc.heap.size, 0, none⟩) 1 1] 47)) := up (below_box wc _) (below_box _ _)
            have HO := Lib.hid (own_below hown hb5)
            have hrd := Rd.one (wc.alloc (.cells #[.int .i64 ((m : Int) - 1)] 3)) (.slice (some ⟨wc.heap.size, 0, none⟩) 1 1) 47
            rw [World.size_alloc] at hrd
            have HRD := Lib.hid hrd
            have h3wq : w3.heap.size ≤ wq.heap.size := HB3.out.size
            have h3wc : w3.heap.size ≤ wc.heap.size := Nat.le_trans h3wq hb4.size
            have hszA : ((wc.alloc (.cells #[.int .i64 ((m : Int) - 1)] 3)).alloc (.cells #[.slice (some ⟨wc.heap.size, 0, none⟩) 1 1] 47)).heap.size = wc.heap.size + 1 + 1 := by rw [World.size_alloc, World.size_alloc]
            have HSZ := Lib.hid (show w3.heap.size ≤ ((wc.alloc (.cells #[.int .i64 ((m : Int) - 1)] 3)).alloc (.cells #[.slice (some ⟨wc.heap.size, 0, none⟩) 1 1] 47)).heap.size by omega)
            have HBX := Lib.hid (hxw.keep hb5)
            have HOW := Lib.hid hown
            have HUL := Lib.hid hul
            have HRI := Lib.hid hri
            have HB4 := Lib.hid hb4
            have HB5 := Lib.hid hb5
            have HSA := Lib.hid hszA
            have y4 := hxw.cell 4 _ rfl
            have hku : k + 1 ≤ 1000000 := by omega
            clear hown hul hri hxw hb4 hb5 hrd h3wq hszA
            go_upto_region 11 with (at_builtin; refine wpList_app _ rfl (.tmp 59) (.tmp 63) 24 rfl w3.heap.size 47 i0 _ 24 Tryd.underlying24 hi0 hz0 hz1 hz2 rfl _ k us rfl HO.out (some ⟨wc.heap.size + 1, 0, none⟩) 1 1 [.slice (some ⟨wc.heap.size, 0, none⟩) 1 1] rfl rfl HRD.out (by intro u hu; simp at hu; subst hu; rfl) hku (by omega) HSZ.out ?_; intro v' w' hown' hg' hn'; have hx5 := HBX.out.grown hg' (fun e => by have := (HO.out.lt _ e.symm).1; omega); have x4 := hx5.cell 4 _ rfl; have v4 := hx5.free 4 (by show 4 < 7; decide); have HO' := Lib.hid hown'; have HG' := Lib.hid hg'; have HN' := Lib.hid hn'; have HX5 := Lib.hid hx5; clear hown' hg' hn' hx5; obtain ⟨Av, cv, hv, _, _⟩ := own_slice HO'.out; subst hv)
            go_wp2_with fail
            go_roundw
            case rel =>
              have hpq := PQ.app h3wc HTL.out.symm HOW.out HUL.out HRI.out HO'.out HG'.out HN'.out
              have hgs := grown_set w' T 4 (.slice Av (k + 1) cv)
              have hTq : T ≤ wq.heap.size := Nat.le_of_lt HXR.out.1
              have hTc : T ≤ wc.heap.size := Nat.le_trans hTq HB4.out.size
              refine ⟨k + 1, S2, Av, cv, by omega, rfl, by go_num, ?_, HX5.out.set 4 _, ?_, ?_⟩
              · rw [hS2.out, hS1.out, HSL.out, HVK.out, ctxt_app _ k _ HTL.out]
                simp
              · rw [HVK.out]
                exact hpq.set hgs htb
              · have h1 := HB3.out.trans (HB4.out.mono hTq)
                have h2 := h1.trans (HB5.out.mono hTc)
                have h3 := h2.grown HG'.out (Nat.le_trans hTc HB5.out.size) (fun g hg => by have := (HO.out.lt g hg).1; omega)
                exact h3.grown hgs (Nat.le_of_lt HX5.out.1) (fun g hg => by cases hg; exact Nat.le_refl _)
            case measure => simp [intOf]; omega
      · have hkN : k = N := by omega
        subst hkN
        obtain ⟨hSl, hxt, hpq, hbt3⟩ := hid.out
        rw [List.take_of_length_le (by rw [HVL.out]; exact Nat.le_refl _)] at hSl hpq
        have HSL := Lib.hid hSl
        have HXR := Lib.hid hxt
        have HPQ := Lib.hid hpq
        have HB3 := Lib.hid hbt3
        have k0 : (0 : Int) ≤ (k : Int) := by omega
        clear hSl hxt hpq hbt3 hid
        go_upto_region 18 with fail
        go_cut [77] from 66 to 76 (fun v wx => wx = wr ∧ v = .bool (decide (vs = [-1])))
        case first =>
          by_cases h1 : k = 1
          · obtain ⟨us, hown, hul, hri⟩ := HPQ.out
            rw [HVL.out] at hown hul
            obtain ⟨v, hv⟩ : ∃ v, vs = [v] := by
              have := HVL.out
              cases vs with
              | nil => simp at this; omega
              | cons a r => cases r with
                | nil => exact ⟨a, rfl⟩
                | cons b r => simp at this; omega
            obtain ⟨x, hx⟩ := get_some us 0 (by omega)
            have hrx := (hri 0 x v hx (by rw [hv]; rfl)).1
            obtain ⟨g, c2, hvA, _, _⟩ := own_some hown (by omega)
            injection hvA with e1 _ _
            subst e1
            have hc1 := hown.cells (g := g) rfl 0 x hx
            obtain ⟨Ax, cx, rfl, _, _, _, hrdx⟩ := hrx
            obtain ⟨ax, e2, _, hc2⟩ := hrdx 0 (.int .i64 v) rfl
            subst e2
            have x4 := HXR.out.cell 4 _ rfl
            have hd : decide (vs = [-1]) = decide (v = -1) := by rw [hv]; simp
            have HD := Lib.hid hd
            subst h1
            have y1 : wr.cell? ⟨g, 0, none⟩ = some (.slice (some ax) 1 cx) := hc1
            have y2 : wr.cell? ax = some (.int .i64 v) := by
              have e3 : ax.add 0 = ax := by unfold Addr.add; simp
              rw [e3] at hc2; exact hc2
            clear hown hul hri hv hx hrdx hc1 hc2 hd
            go_wp2_with fail
            go_meet
            case rel =>
              refine ⟨rfl, congrArg Value.bool ?_⟩
              rw [HD.out, Bool.eq_iff_iff]
              simp
          · have h1i : ((k : Int) == 1) = false := by rw [beq_eq_false_iff_ne]; omega
            have h1n : (k == 1) = false := by rw [beq_eq_false_iff_ne]; exact h1
            have hd : decide (vs = [-1]) = false := decide_eq_false (fun e => by have := HVL.out; rw [e] at this; exact h1 this.symm)
            have HD := Lib.hid hd
            clear hd
            go_wp2_with fail
            go_meet
            case rel => exact ⟨rfl, by rw [HD.out]⟩
        case rest =>
          obtain ⟨rfl, rfl⟩ := hcut
          obtain ⟨q, hq⟩ : ∃ q, decide (vs = [-1]) = q := ⟨_, rfl⟩
          rw [hq]
          have HQ := Lib.hid hq
          clear hq
          go_upto_if 77 with fail
          go_cut [8] from 78 to 78 (fun _ wx => ∃ Ap np cp, Box wx T (wE (prV p) (fiV f) (.slice Ap np cp) ⟨#[]⟩) ∧ PW w3.heap.size wx (.slice Ap np cp) vs ∧ Below T w3 wx)
          case first =>
            cases q with
            | true =>
              have x4 := HXR.out.cell 4 _ rfl
              have v4 := HXR.out.free 4 (by show 4 < 7; decide)
              go_wp2_with fail
              have hx5 := HXR.out.set 4 (.slice none 0 0)
              have hgs := grown_set wc T 4 (.slice none 0 0)
              go_meet
              case rel => exact ⟨none, 0, 0, hx5, .inl ⟨of_decide_eq_true HQ.out, rfl⟩, HB3.out.grown hgs (Nat.le_of_lt HXR.out.1) (fun g hg => by cases hg; exact Nat.le_refl _)⟩
            | false =>
              go_wp2_with fail
              go_meet
              case rel => exact ⟨_, _, _, HXR.out, .inr ⟨of_decide_eq_false HQ.out, HPQ.out⟩, HB3.out⟩
          case rest =>
            obtain ⟨Ap, np, cp, hxp, hpw, hbp⟩ := hcut
            have HXQ := Lib.hid hxp
            have HPW := Lib.hid hpw
            have HBP := Lib.hid hbp
            clear hxp hpw hbp HXR HPQ HB3
            obtain ⟨w4, hw4⟩ : ∃ w4, w4 = wc := ⟨_, rfl⟩
            subst hw4
            go_upto_block 2 with fail
            go_cut [8] from 79 to 102 (fun _ wx => ∃ (j : Nat) (B : ByteArray), (j = 3 ∨ (n1 ≤ j ∧ j ≤ 3)) ∧ B = ⟨((sg.take j).map sgV).toArray⟩ ∧ Box wx T (wE (prV p) (fiV f) (.slice Ap np cp) B) ∧ PW w3.heap.size wx (.slice Ap np cp) vs ∧ Below T w3 wx)
            case first =>
              go_wp2_with fail
              go_loopw [8] (fun i wr => ∃ (j : Nat) (B : ByteArray), j ≤ 3 ∧ j ≤ n1 ∧ i = .int .i64 j ∧ Hid (B = ⟨((sg.take j).map sgV).toArray⟩ ∧ Box wr T (wE (prV p) (fiV f) (.slice Ap np cp) B) ∧ PW w3.heap.size wr (.slice Ap np cp) vs ∧ Below T w3 wr)) (fun i _ => 3 - (intOf i).toNat)
              case atStart => exact ⟨0, _, by omega, by omega, rfl, rfl, HXQ.out, HPW.out, HBP.out⟩
              case round =>
                obtain ⟨j, B, hj3, hjn, rfl, hid⟩ := hrel
                have hb0j := (HSX.out.below hid.out.2.2.2 hbt)
                have x2 := hb0j.cell 2 _ rfl
                by_cases hjl : j < n1
                · by_cases hj2 : j < 3
                  · obtain ⟨hB, hxt, hpw, hbt3⟩ := hid.out
                    obtain ⟨b, hb⟩ := get_some sg j (by rw [L1.out]; exact hjl)
                    have hbw : Below w.heap.size w wr := (HB2.out.trans ((HBT.out.trans hbt3).mono hB1s))
                    obtain ⟨ad, hA, _, hcell⟩ := (R1.out.below hbw) j _ (cB_at sg j b hb)
                    subst hA
                    obtain ⟨r, hr, hr2⟩ : ∃ r : Nat, (b.toNat : Int).tmod 16 = (r : Int) ∧ r = b.toNat % 16 := ⟨b.toNat % 16, by rw [Int.tmod_eq_emod_of_nonneg (by omega)]; rfl, rfl⟩
                    have hsv : (32 : Int) + (r : Int) = ((sgV b).toNat : Int) := by unfold sgV; rw [UInt8.toNat_ofNat']; omega
                    have hr16 : r < 16 := by omega
                    have i1 : (j : Int) < (n1 : Int) := by omega
                    have i2 : (j : Int) < 3 := by omega
                    have x5 := hxt.cell 5 _ rfl
                    have v5 := hxt.free 5 (by show 5 < 7; decide)
                    have HSV := Lib.hid hsv
                    have HBB := Lib.hid hB
                    have HXT5 := Lib.hid hxt
                    have HPW5 := Lib.hid hpw
                    have HB5 := Lib.hid hbt3
                    have HGB := Lib.hid hb
                    have hBz : B.size ≤ 3 := by have : B.size = ((sg.take j).map sgV).length := by { rw [hB]; rfl }
                                                rw [List.length_map, List.length_take] at this
                                                omega
                    have hcv := str_of (wr.alloc (.cells #[.int .u8 (32 + (r : Int))] 5)).drew (some ⟨wr.heap.size, 0, none⟩) 1 [sgV b] (by
                      rw [show cB [sgV b] = [.int .u8 ((sgV b).toNat : Int)] from rfl, ← hsv]
                      exact (Rd.one wr _ _).below (Below.refl _ _).drew)
                    have hwr : IntKind.u8.wrap (32 + (r : Int)) = 32 + (r : Int) := (show ∀ q : Fin 16, IntKind.u8.wrap (32 + (q.val : Int)) = 32 + (q.val : Int) by decide) ⟨r, hr16⟩
                    rw [show [sgV b].length = 1 from rfl] at hcv
                    have hlB : ¬ 9223372036854775807 < B.size + 1 := by omega
                    have hxa := (hxt.alloc (.cells #[.int .u8 (32 + (r : Int))] 5)).drew
                    have x5b := hxa.cell 5 _ rfl
                    have v5b := hxa.free 5 (by show 5 < 7; decide)
                    have HXA := Lib.hid hxa
                    clear hB hxt hpw hbt3 hid hb hbw hr2 hsv hb0j hxa
                    go_upto_region 23 with fail
                    go_region
                    go_wp2_with fail
                    go_roundw
                    case rel =>
                      have hgs := grown_set (wr.alloc (.cells #[.int .u8 (32 + (r : Int))] 5)) T 5 (.string (B ++ ⟨#[sgV b]⟩))
                      have hTl : T ≤ (wr.alloc (.cells #[.int .u8 (32 + (r : Int))] 5)).heap.size := by rw [World.size_alloc]; exact Nat.le_succ_of_le (Nat.le_of_lt HXT5.out.1)
                      refine ⟨j + 1, _, by omega, by omega, by go_num, ?_, ((HXT5.out.alloc _).set 5 _).drew, ((HPW5.out.keep (below_box wr _)).set hgs htb).keep (Below.refl _ _).drew, ?_⟩
                      · rw [HBB.out, sgl_snoc sg j b HGB.out]
                        exact app_ba _ _
                      · have h1 := HB5.out.trans ((below_box wr (.cells #[.int .u8 (32 + (r : Int))] 5)).mono (Nat.le_of_lt HXT5.out.1))
                        exact (h1.grown hgs hTl (fun g hg => by cases hg; exact Nat.le_refl _)).drew
                    case measure => simp [intOf]; omega
                  · have i2 : decide ((j : Int) < 3) = false := decide_eq_false (by omega)
                    have i3 : decide (j < 3) = false := decide_eq_false hj2
                    have i1 : (j : Int) < (n1 : Int) := by omega
                    go_wp2_with fail
                    go_meet
                    case rel => exact ⟨j, B, .inl (by omega), hid.out⟩
                · have i1 : decide ((j : Int) < (n1 : Int)) = false := decide_eq_false (by omega)
                  have i2 : decide (j < n1) = false := decide_eq_false hjl
                  go_wp2_with fail
                  go_meet
                  case rel => exact ⟨j, B, .inr ⟨by omega, hj3⟩, hid.out⟩
            case rest =>
              obtain ⟨j, B, hj, hB, hxt, hpw, hbt3⟩ := hcut
              obtain ⟨w5, hw5⟩ : ∃ w5, w5 = wc := ⟨_, rfl⟩
              subst hw5
              obtain ⟨sl, hsl⟩ : ∃ sl, sl = (sg.take 3).map sgV := ⟨_, rfl⟩
              have hB3 : B = ⟨sl.toArray⟩ := by
                rw [hB, hsl]
                rcases hj with rfl | ⟨h1, h2⟩
                · rfl
                · rw [List.take_of_length_le (by rw [L1.out]; exact h1), List.take_of_length_le (by rw [L1.out]; omega)]
              have hsl3 : sl.length ≤ 3 := by rw [hsl, List.length_map, List.length_take]; omega
              have hslo : ∀ b ∈ sl, 32 ≤ b.toNat ∧ b.toNat ≤ 47 := fun b hb => by
                rw [hsl] at hb
                obtain ⟨c, _, rfl⟩ := List.mem_map.1 hb
                exact sgV_ok c
              have hBz : B.size = sl.length := by rw [hB3]; rfl
              have hBl : B.data.toList = sl := by rw [hB3]
              have hbw : Below w.heap.size w w5 := (HB2.out.trans ((HBT.out.trans hbt3).mono hB1s))
              obtain ⟨F, hF⟩ : ∃ F, F = fiV f := ⟨_, rfl⟩
              have hFok := fiV_ok f
              rw [← hF] at hxt hFok
              have hrun := run_csi (prV p) (prV_ok p) vs HOK.out sl hslo hsl3 F hFok.1 hFok.2
              have hS5 : (S ++ B ++ ⟨#[F]⟩ ++ ⟨#[122]⟩).data.toList = 27 :: 91 :: (prB (prV p) ++ ctxt vs ++ sl ++ [F, 122]) := by
                rw [Go.Joins.data_append, Go.Joins.data_append, Go.Joins.data_append, HSL.out, hBl]
                simp
              rw [← hS5] at hrun
              have hS5z : (S ++ B ++ ⟨#[F]⟩ ++ ⟨#[122]⟩).size ≤ 4096 := by
                have h1 := ctxt_len vs HOK.out
                have h2 := HVL.out
                have h3 : (prB (prV p)).length ≤ 1 := by unfold prB; split <;> simp
                have h4 := congrArg List.length hS5
                rw [ba_len] at h4
                rw [h4]
                simp only [List.length_cons, List.length_append, List.length_nil]
                omega
              have hSz : S.size ≤ 300 := by
                rw [ByteArray.size_append, ByteArray.size_append, ByteArray.size_append] at hS5z
                have h1 := ctxt_len vs HOK.out
                have h2 := HVL.out
                have h3 : (prB (prV p)).length ≤ 1 := by unfold prB; split <;> simp
                have h4 := congrArg List.length HSL.out
                rw [ba_len] at h4
                rw [h4]
                simp only [List.length_cons, List.length_append]
                omega
              have hl1 : ¬ 9223372036854775807 < S.size + B.size := by omega
              have hl2 : ¬ 9223372036854775807 < S.size + B.size + 1 := by omega
              have hl3 : ¬ 9223372036854775807 < S.size + B.size + 1 + 1 := by omega
              have HRUN := Lib.hid hrun
              have HS5Z := Lib.hid hS5z
              have HXT5 := Lib.hid hxt
              have HPW5 := Lib.hid hpw
              have HBW := Lib.hid hbw
              have HBZ := Lib.hid hBz
              have HB3' := Lib.hid hB3
              have HKV := Lib.hid (show vs.length = k from HVL.out)
              have hx5 := hxt.cell 5 _ rfl
              have hx3 := hxt.cell 3 _ rfl
              have hcv := str_of (w5.alloc (.cells #[.int .u8 (F.toNat : Int)] 5)) (some ⟨w5.heap.size, 0, none⟩) 1 [F] (Rd.one w5 _ _)
              rw [show [F].length = 1 from rfl] at hcv
              have hB33 : B.size ≤ 3 := by omega
              clear hF hrun hS5 hS5z hxt hpw hbw hBz hB3 hsl hslo hBl hB hj hbt3 hFok
              go_upto_region 25 with fail
              have hba := below_box w5 (.cells #[.int .u8 (F.toNat : Int)] 5)
              have HX6 := Lib.hid (HXT5.out.keep hba)
              have HPW6 := Lib.hid (HPW5.out.keep hba)
              have HBW6 := Lib.hid (up HBW.out hba)
              clear hba hcv hx5 hx3
              generalize w5.alloc (.cells #[.int .u8 (F.toNat : Int)] 5) = w6 at HX6 HPW6 HBW6 ⊢
              have HW6 := Lib.hid (show ∀ W, Below w6.heap.size w6 W → Mk W ∧ Tf W ∧ Below w.heap.size w W from fun W hW => have hq := up HBW6.out hW; ⟨HM.out.keep hq, HF.out.keep hq, hq⟩)
              have D := Below.refl w6.heap.size w6
              by_cases hbig : 16 < k ∨ 2 < B.size
              · have T1 := Lib.hid (fun (W : World) (hW : Below w6.heap.size w6 W) => show Calls Tryd.prog 15 #[.string (S ++ B ++ ⟨#[F]⟩ ++ ⟨#[122]⟩), .slice (some ⟨W.heap.size, 0, none⟩) 1 1] (W.alloc (.cells #[.int .i64 1, .int .i64 122, .int .u8 0, .int .u8 0, .slice .none 0 0, .string ⟨#[]⟩, .string ⟨#[]⟩] 38)) (fun e w' => e = .returned (.bool true) ∧ Below W.heap.size W w') from
                  tells_true _ [⟨prE 122, .none, 0, 0⟩] 1 rfl (by decide) W (by
                    intro x hx
                    simp only [List.mem_cons, List.not_mem_nil, or_false] at hx
                    subst hx
                    exact RL.nil _) (kv_small _ (by rfl)) (by
                      have h := HRUN.out
                      unfold csiL at h
                      rw [if_pos (by rw [HKV.out, ← HBZ.out]; exact hbig), List.nil_append] at h
                      have hl : ¬ 4096 < (S ++ B ++ ⟨#[F]⟩ ++ ⟨#[122]⟩).data.toList.length := by have := HS5Z.out; rw [ba_len]; omega
                      unfold tellB fedS
                      rw [if_pos (by decide), if_neg hl, h]
                      rfl) (HW6.out W hW).1 (HW6.out W hW).2.1 (by have := HS5Z.out; omega))
                have y5 := HX6.out.cell 5 _ rfl
                by_cases hk16 : 16 < k
                · have hk1 : (16 : Int) < (k : Int) := by omega
                  go_wp2_with (first
                    | (go_at_call 16; refine (lprint_any _ _).mono ?_; rintro e w' ⟨rfl, hb'⟩; have D := up D hb'; clear hb')
                    | (go_at_call 15; (with_reducible refine (T1.out _ D).mono ?_); rintro e w' ⟨rfl, hb'⟩; have D := up D hb'; clear hb'))
                  go_ret
                  exact ⟨rfl, (HW6.out _ D).2.2⟩
                · have hk1 : decide ((16 : Int) < (k : Int)) = false := decide_eq_false (by omega)
                  have hk2 : decide (16 < k) = false := decide_eq_false hk16
                  have hb1 : (2 : Int) < (B.size : Int) := by omega
                  go_wp2_with (first
                    | (go_at_call 16; refine (lprint_any _ _).mono ?_; rintro e w' ⟨rfl, hb'⟩; have D := up D hb'; clear hb')
                    | (go_at_call 15; (with_reducible refine (T1.out _ D).mono ?_); rintro e w' ⟨rfl, hb'⟩; have D := up D hb'; clear hb'))
                  go_ret
                  exact ⟨rfl, (HW6.out _ D).2.2⟩
              · have hk1 : decide ((16 : Int) < (k : Int)) = false := decide_eq_false (by omega)
                have hk2 : decide (16 < k) = false := decide_eq_false (by omega)
                have hb1 : decide ((2 : Int) < (B.size : Int)) = false := decide_eq_false (by omega)
                have hb2 : decide (2 < B.size) = false := decide_eq_false (by omega)
                have y5 := HX6.out.cell 5 _ rfl
                go_upto_region 27 with fail
                have hpl := HPW6.out.rl
                have hkc : Kq (cshut (cspL vs)) := by
                  unfold cshut
                  split
                  · exact kq_nil
                  · refine ⟨by simp [cspL, HKV.out]; omega, fun q hq => ?_⟩
                    obtain ⟨v, _, rfl⟩ := List.mem_map.1 hq
                    show 1 ≤ 1000000
                    omega
                have T2 := Lib.hid (fun (W : World) (hW : Below w6.heap.size w6 W) => show Calls Tryd.prog 15 #[.string (S ++ B ++ ⟨#[F]⟩ ++ ⟨#[122]⟩), .slice (some ⟨W.heap.size, 0, none⟩) 2 2] (W.alloc (.cells #[.int .i64 4, .int .i64 0, .int .u8 ((prV p).toNat : Int), .int .u8 (F.toNat : Int), .slice Ap np cp, .string B, .string ⟨#[]⟩, .int .i64 1, .int .i64 122, .int .u8 0, .int .u8 0, .slice .none 0 0, .string ⟨#[]⟩, .string ⟨#[]⟩] 38)) (fun e w' => e = .returned (.bool true) ∧ Below W.heap.size W w') from
                  tells_true _ [⟨⟨4, 0, prV p, F, cshut (cspL vs), B, nos⟩, Ap, np, cp⟩, ⟨prE 122, .none, 0, 0⟩] 2 rfl (by decide) W (by
                    intro x hx
                    simp only [List.mem_cons, List.not_mem_nil, or_false] at hx
                    rcases hx with rfl | rfl
                    · exact hpl.keep hW
                    · exact RL.nil _) (fun e he => by
                      simp only [List.map_cons, List.map_nil, List.mem_cons, List.not_mem_nil, or_false] at he
                      rcases he with rfl | rfl
                      · exact hkc
                      · exact kq_nil) (by
                      have h := HRUN.out
                      unfold csiL at h
                      rw [if_neg (by rw [HKV.out, ← HBZ.out]; exact hbig), ← HB3'.out] at h
                      have hl : ¬ 4096 < (S ++ B ++ ⟨#[F]⟩ ++ ⟨#[122]⟩).data.toList.length := by rw [ba_len]; have := HS5Z.out; omega
                      unfold tellB fedS
                      rw [if_pos (by decide), if_neg hl, h]
                      show (decide ((0 : Int) = 0) && (evB [⟨4, 0, prV p, F, cshut (cspL vs), B, nos⟩, prE 122] [⟨4, 0, prV p, F, cshut (cspL vs), B, nos⟩, prE 122] && eqS (begS 0) (begS 0))) = true
                      rw [(evB_iff _ _).2 rfl, (eqS_iff _ _).2 rfl]
                      rfl) (HW6.out W hW).1 (HW6.out W hW).2.1 (by have := HS5Z.out; omega))
                have HKC := Lib.hid (show ∀ W, Below w6.heap.size w6 W → W.cell? ⟨T, 0, none⟩ = some (.int .i64 4) ∧ W.cell? ⟨T, 1, none⟩ = some (.int .i64 0) ∧ W.cell? ⟨T, 2, none⟩ = some (.int .u8 ((prV p).toNat : Int)) ∧ W.cell? ⟨T, 3, none⟩ = some (.int .u8 (F.toNat : Int)) ∧ W.cell? ⟨T, 4, none⟩ = some (.slice Ap np cp) ∧ W.cell? ⟨T, 5, none⟩ = some (.string B) ∧ W.cell? ⟨T, 6, none⟩ = some (.string ⟨#[]⟩) from fun W hW => ⟨(HX6.out.keep hW).cell 0 _ rfl, (HX6.out.keep hW).cell 1 _ rfl, (HX6.out.keep hW).cell 2 _ rfl, (HX6.out.keep hW).cell 3 _ rfl, (HX6.out.keep hW).cell 4 _ rfl, (HX6.out.keep hW).cell 5 _ rfl, (HX6.out.keep hW).cell 6 _ rfl⟩)
                clear hpl hkc y5
                have D := (Below.refl w6.heap.size w6).drew
                go_region_held3 (fun W => W.cell? ⟨T, 0, none⟩ = some (.int .i64 4) ∧ W.cell? ⟨T, 1, none⟩ = some (.int .i64 0) ∧ W.cell? ⟨T, 2, none⟩ = some (.int .u8 ((prV p).toNat : Int)) ∧ W.cell? ⟨T, 3, none⟩ = some (.int .u8 (F.toNat : Int)) ∧ W.cell? ⟨T, 4, none⟩ = some (.slice Ap np cp) ∧ W.cell? ⟨T, 5, none⟩ = some (.string B) ∧ W.cell? ⟨T, 6, none⟩ = some (.string ⟨#[]⟩))
                  (first | with_reducible exact HKC.out _ D | with_reducible exact HKC.out _ (up D (below_box _ _)) | with_reducible assumption)
                  (first
                    | (go_at_call 16; refine (lprint_any _ _).mono ?_; rintro e w' ⟨rfl, hb'⟩; have D := up D hb'; clear hb')
                    | (go_at_call 15; (with_reducible refine (T2.out _ D).mono ?_); rintro e w' ⟨rfl, hb'⟩; have D := up D hb'; clear hb'))
                all_goals
                  go_wp2_with fail
                  go_ret
                  exact ⟨rfl, (HW6.out _ D).2.2⟩
end Go.Proofs.YtefkbdmgplfgoaaDoor.Sta
