/-
  SgrMath
-/
import Derived.Test.YteepfecplabinaaDoorP3
import Derived.Test.YteepfecplabinaaDoorP4
namespace Go.Proofs.YteepfecplabinaaDoor.Sgr
open Col Sty
set_option linter.unusedSimpArgs false

/-- a pen's four numbers: N, M, Color -/
structure Q4 where
  n : Int
  m : Int
  c0 : Int
  c1 : Int
deriving DecidableEq

def okQ (q : Q4) : Bool := fitP q.n q.m q.c0 q.c1
def pq (n m : Int) : Q4 := ⟨n, m, 0, 0⟩
def cq (n k c : Int) : Q4 := ⟨n, 0, k, c⟩
/-- the kind of pen of 38, 48, 58 -/
def whV (v : Int) : Int := if v = 38 then 4 else if v = 48 then 5 else if v = 58 then 6 else -1
def inB (z : Int) : Bool := decide (0 ≤ z) && decide (z ≤ 255)
def rgbQ (n r g b : Int) : Q4 := cq n 2 (r * 65536 + g * 256 + b)
/-- the values that are no color with an index -/
def litV (v : Int) : Option Q4 :=
  if v = 0 then some (pq 0 0) else if v = 1 then some (pq 1 1) else if v = 2 then some (pq 1 2) else if v = 3 then some (pq 1 4)
  else if v = 4 then some (pq 3 1) else if v = 5 then some (pq 1 8) else if v = 6 then some (pq 1 8) else if v = 7 then some (pq 1 16)
  else if v = 8 then some (pq 1 32) else if v = 9 then some (pq 1 64) else if v = 53 then some (pq 1 128)
  else if v = 21 then some (pq 3 2) else if v = 22 then some (pq 2 3) else if v = 23 then some (pq 2 4) else if v = 24 then some (pq 3 0)
  else if v = 25 then some (pq 2 8) else if v = 27 then some (pq 2 16) else if v = 28 then some (pq 2 32) else if v = 29 then some (pq 2 64)
  else if v = 55 then some (pq 2 128) else if v = 39 then some (pq 4 0) else if v = 49 then some (pq 5 0) else if v = 59 then some (pq 6 0)
  else none
/-- a parameter with one part -/
def simV (v : Int) : Option Q4 :=
  match litV v with
  | some q => some q
  | none =>
    if 30 ≤ v ∧ v ≤ 37 then some (cq 4 1 (v - 30)) else if 40 ≤ v ∧ v ≤ 47 then some (cq 5 1 (v - 40))
    else if 90 ≤ v ∧ v ≤ 97 then some (cq 4 1 (v - 82)) else if 100 ≤ v ∧ v ≤ 107 then some (cq 5 1 (v - 92)) else none
/-- a single parameter -/
def aloV : List Int → Option Q4
  | [v] => simV (max 0 v)
  | [v, a] => if v = 4 ∧ 0 ≤ a ∧ a ≤ 5 then some (pq 3 a) else none
  | [v, a, b] => if 0 ≤ whV v ∧ a = 5 ∧ inB b then some (cq (whV v) 1 b) else none
  | [v, a, r, g, b] => if 0 ≤ whV v ∧ a = 2 ∧ inB r ∧ inB g ∧ inB b then some (rgbQ (whV v) r g b) else none
  | [v, a, _, r, g, b] => if 0 ≤ whV v ∧ a = 2 ∧ inB r ∧ inB g ∧ inB b then some (rgbQ (whV v) r g b) else none
  | _ => none
/-- the values of the leading parameters with one part -/
def valsV : List (List Int) → List Int
  | [v] :: l => max 0 v :: valsV l
  | _ => []
/-- what the first parameters denote, and how many are consumed -/
def frV (l : List (List Int)) : Option Q4 × Nat :=
  match valsV l with
  | v :: 5 :: t =>
    if 0 ≤ whV v then
      match t with
      | i :: _ => if inB i then (some (cq (whV v) 1 i), 3) else (none, min 3 l.length)
      | [] => (none, min 3 l.length)
    else (aloV (l.headD []), 1)
  | v :: 2 :: t =>
    if 0 ≤ whV v then
      match t with
      | r :: g :: b :: _ => if inB r ∧ inB g ∧ inB b then (some (rgbQ (whV v) r g b), 5) else (none, min 5 l.length)
      | _ => (none, min 5 l.length)
    else (aloV (l.headD []), 1)
  | _ => (aloV (l.headD []), 1)
/-- the pens of parameters, with so many steps at most -/
def pensF : Nat → List (List Int) → List Q4
  | 0, _ => []
  | _ + 1, [] => []
  | k + 1, l => (frV l).1.toList ++ pensF k (l.drop (frV l).2)
def pensL (l : List (List Int)) : List Q4 := if l = [] then [pq 0 0] else pensF l.length l
def pensV (l : List (List Int)) : List Q4 × Int := if Par.isBad l then ([], 150) else (pensL l, 0)
/-- the value that sets an attribute, and the one that clears it -/
def setV (m : Int) : Int := if m = 1 then 1 else if m = 2 then 2 else if m = 4 then 3 else if m = 8 then 5 else if m = 16 then 7 else if m = 32 then 8 else if m = 64 then 9 else 53
def clrV (m : Int) : Int := if m = 3 then 22 else if m = 4 then 23 else if m = 8 then 25 else if m = 16 then 27 else if m = 32 then 28 else if m = 64 then 29 else 55
/-- the parameter of a valid pen -/
def prmV (q : Q4) : List Int :=
  if q.n = 0 then [0] else if q.n = 1 then [setV q.m] else if q.n = 2 then [clrV q.m]
  else if q.n = 3 then (if q.m = 1 then [4] else if q.m = 0 then [24] else [4, q.m])
  else
    let f := 38 + 10 * (q.n - 4)
    if q.c0 = 0 then [f + 1] else if q.c0 = 2 then [f, 2, -1, q.c1 / 65536, q.c1 / 256 % 256, q.c1 % 256]
    else if q.n ≠ 6 ∧ q.c1 < 8 then [f - 8 + q.c1] else if q.n ≠ 6 ∧ q.c1 < 16 then [f + 44 + q.c1] else [f, 5, q.c1]
def prmsV (l : List Q4) : List (List Int) × Int := if l.all okQ then (if 16 < l.length then ([], 3) else (l.map prmV, 0)) else ([], 141)

theorem frV_len (l : List (List Int)) (h : l ≠ []) : 1 ≤ (frV l).2 := by
  have hl : 1 ≤ l.length := by cases l with | nil => exact absurd rfl h | cons a t => simp
  unfold frV
  repeat' split
  all_goals simp only []
  all_goals omega
theorem frV_one (v : Int) (l : List (List Int)) (hv : whV (max 0 v) < 0) : frV ([v] :: l) = (simV (max 0 v), 1) := by
  have e : valsV ([v] :: l) = max 0 v :: valsV l := rfl
  have h0 : ¬ 0 ≤ whV (max 0 v) := by omega
  unfold frV
  rw [e]
  split
  · rename_i h; injection h with h1 h2; subst h1; rw [if_neg h0]; rfl
  · rename_i h; injection h with h1 h2; subst h1; rw [if_neg h0]; rfl
  · rfl
theorem valsV_more (p : List Int) (l : List (List Int)) (hp : p.length ≠ 1) : valsV (p :: l) = [] := by
  match p, hp with
  | [], _ => rfl
  | [a], h => exact absurd rfl h
  | a :: b :: t, _ => rfl
theorem frV_more (p : List Int) (l : List (List Int)) (hp : p.length ≠ 1) : frV (p :: l) = (aloV p, 1) := by
  unfold frV
  rw [valsV_more p l hp]
  rfl
theorem fit_cases (q : Q4) (h : okQ q = true) :
    (q = pq 0 0) ∨ (∃ m, attr m = true ∧ q = pq 1 m) ∨ (∃ m, (m = 3 ∨ (attr m = true ∧ m ≠ 1 ∧ m ≠ 2)) ∧ q = pq 2 m) ∨ (∃ m, 0 ≤ m ∧ m ≤ 5 ∧ q = pq 3 m)
      ∨ (∃ n, (n = 4 ∨ n = 5 ∨ n = 6) ∧ (q = cq n 0 0 ∨ (∃ c, 0 ≤ c ∧ c ≤ 255 ∧ q = cq n 1 c) ∨ (∃ c, 0 ≤ c ∧ c ≤ 16777215 ∧ q = cq n 2 c))) := by
  obtain ⟨n, m, c0, c1⟩ := q
  simp only [okQ, fitP, none2, okC] at h
  split at h
  · simp only [Bool.and_eq_true, beq_iff_eq, Bool.or_eq_true, bne_iff_ne, decide_eq_true_eq, ne_eq] at h; obtain ⟨⟨rfl, rfl⟩, rfl⟩ := h; rename_i hn; subst hn; exact Or.inl rfl
  split at h
  · simp only [Bool.and_eq_true, beq_iff_eq, Bool.or_eq_true, bne_iff_ne, decide_eq_true_eq, ne_eq] at h; obtain ⟨⟨rfl, rfl⟩, h⟩ := h; rename_i _ hn; subst hn; exact Or.inr (Or.inl ⟨m, h, rfl⟩)
  split at h
  · simp only [Bool.and_eq_true, beq_iff_eq, Bool.or_eq_true, bne_iff_ne, decide_eq_true_eq, ne_eq] at h; obtain ⟨⟨rfl, rfl⟩, h⟩ := h; rename_i _ _ hn; subst hn; exact Or.inr (Or.inr (Or.inl ⟨m, h, rfl⟩))
  split at h
  · simp only [Bool.and_eq_true, beq_iff_eq, Bool.or_eq_true, bne_iff_ne, decide_eq_true_eq, ne_eq] at h; obtain ⟨⟨rfl, rfl⟩, h1, h2⟩ := h; rename_i _ _ _ hn; subst hn; exact Or.inr (Or.inr (Or.inr (Or.inl ⟨m, h1, h2, rfl⟩)))
  split at h
  · simp only [Bool.and_eq_true, beq_iff_eq, Bool.or_eq_true, bne_iff_ne, decide_eq_true_eq, ne_eq] at h; obtain ⟨rfl, h⟩ := h
    rename_i hn
    refine Or.inr (Or.inr (Or.inr (Or.inr ⟨n, hn, ?_⟩)))
    rcases h with ⟨rfl, rfl⟩ | ⟨rfl, h1, h2⟩ | ⟨rfl, h1, h2⟩
    · exact Or.inl rfl
    · exact Or.inr (Or.inl ⟨c1, h1, h2, rfl⟩)
    · exact Or.inr (Or.inr ⟨c1, h1, h2, rfl⟩)
  · exact absurd h (by simp)
theorem attr_cases (m : Int) (h : attr m = true) : m = 1 ∨ m = 2 ∨ m = 4 ∨ m = 8 ∨ m = 16 ∨ m = 32 ∨ m = 64 ∨ m = 128 := of_decide_eq_true h
theorem fr_idx (n c : Int) (hn : n = 4 ∨ n = 5 ∨ n = 6) (h0 : 0 ≤ c) (h1 : c ≤ 255) (l : List (List Int)) : frV (prmV (cq n 1 c) :: l) = (some (cq n 1 c), 1) := by
  have hp : prmV (cq n 1 c) = if n ≠ 6 ∧ c < 8 then [38 + 10 * (n - 4) - 8 + c] else if n ≠ 6 ∧ c < 16 then [38 + 10 * (n - 4) + 44 + c] else [38 + 10 * (n - 4), 5, c] := by
    rcases hn with rfl | rfl | rfl <;> rfl
  rw [hp]
  split
  · rename_i h
    have e : max 0 (38 + 10 * (n - 4) - 8 + c) = 38 + 10 * (n - 4) - 8 + c := by omega
    rw [frV_one _ _ (by rw [e]; unfold whV; split; omega; split; omega; split <;> omega), e]
    have hl : litV (38 + 10 * (n - 4) - 8 + c) = none := by
      unfold litV
      repeat (rw [if_neg (by omega)])
    simp only [simV, hl]
    rcases hn with rfl | rfl | rfl
    · rw [if_pos (by omega)]; simp only [Prod.mk.injEq, and_true, Option.some.injEq, cq, Q4.mk.injEq, true_and]; omega
    · rw [if_neg (by omega), if_pos (by omega)]; simp only [Prod.mk.injEq, and_true, Option.some.injEq, cq, Q4.mk.injEq, true_and]; omega
    · omega
  split
  · rename_i h' h
    have e : max 0 (38 + 10 * (n - 4) + 44 + c) = 38 + 10 * (n - 4) + 44 + c := by omega
    rw [frV_one _ _ (by rw [e]; unfold whV; split; omega; split; omega; split <;> omega), e]
    have hl : litV (38 + 10 * (n - 4) + 44 + c) = none := by
      unfold litV
      repeat (rw [if_neg (by omega)])
    simp only [simV, hl]
    rcases hn with rfl | rfl | rfl
    · rw [if_neg (by omega), if_neg (by omega), if_pos (by omega)]; simp only [Prod.mk.injEq, and_true, Option.some.injEq, cq, Q4.mk.injEq, true_and]; omega
    · rw [if_neg (by omega), if_neg (by omega), if_neg (by omega), if_pos (by omega)]; simp only [Prod.mk.injEq, and_true, Option.some.injEq, cq, Q4.mk.injEq, true_and]; omega
    · omega
  · rw [frV_more _ _ (by simp)]
    have hb : inB c = true := by simp [inB, h0, h1]
    rcases hn with rfl | rfl | rfl <;> simp [aloV, whV, hb]
theorem fr_rgb (n c : Int) (hn : n = 4 ∨ n = 5 ∨ n = 6) (h0 : 0 ≤ c) (h1 : c ≤ 16777215) (l : List (List Int)) : frV (prmV (cq n 2 c) :: l) = (some (cq n 2 c), 1) := by
  have hp : prmV (cq n 2 c) = [38 + 10 * (n - 4), 2, -1, c / 65536, c / 256 % 256, c % 256] := by
    rcases hn with rfl | rfl | rfl <;> rfl
  rw [hp, frV_more _ _ (by simp)]
  have a1 : inB (c / 65536) = true := by simp only [inB, Bool.and_eq_true, decide_eq_true_eq]; omega
  have a2 : inB (c / 256 % 256) = true := by simp only [inB, Bool.and_eq_true, decide_eq_true_eq]; omega
  have a3 : inB (c % 256) = true := by simp only [inB, Bool.and_eq_true, decide_eq_true_eq]; omega
  have e : c / 65536 * 65536 + c / 256 % 256 * 256 + c % 256 = c := by omega
  rcases hn with rfl | rfl | rfl <;> simp [aloV, whV, a1, a2, a3, rgbQ, e]
/-- the parameter of a valid pen denotes it, whatever follows -/
theorem fr_prm (q : Q4) (h : okQ q = true) (l : List (List Int)) : frV (prmV q :: l) = (some q, 1) := by
  rcases fit_cases q h with rfl | ⟨m, hm, rfl⟩ | ⟨m, hm, rfl⟩ | ⟨m, h0, h5, rfl⟩ | ⟨n, hn, rfl | ⟨c, h0, h1, rfl⟩ | ⟨c, h0, h1, rfl⟩⟩
  · exact frV_one 0 l (by decide)
  · rcases attr_cases m hm with rfl | rfl | rfl | rfl | rfl | rfl | rfl | rfl <;> exact frV_one _ l (by decide)
  · rcases hm with rfl | ⟨hm, h1, h2⟩
    · exact frV_one 22 l (by decide)
    · rcases attr_cases m hm with rfl | rfl | rfl | rfl | rfl | rfl | rfl | rfl <;> first | exact absurd rfl h1 | exact absurd rfl h2 | exact frV_one _ l (by decide)
  · have : m = 0 ∨ m = 1 ∨ m = 2 ∨ m = 3 ∨ m = 4 ∨ m = 5 := by omega
    rcases this with rfl | rfl | rfl | rfl | rfl | rfl <;> first | exact frV_one _ l (by decide) | exact frV_more _ l (by decide)
  · rcases hn with rfl | rfl | rfl <;> exact frV_one _ l (by decide)
  · exact fr_idx n c hn h0 h1 l
  · exact fr_rgb n c hn h0 h1 l
theorem pensF_map (l : List Q4) (h : l.all okQ = true) (k : Nat) (hk : l.length ≤ k) : pensF k (l.map prmV) = l := by
  induction l generalizing k with
  | nil => cases k <;> rfl
  | cons q t ih =>
    cases k with
    | zero => simp at hk
    | succ k =>
      simp only [List.all_cons, Bool.and_eq_true] at h
      simp only [List.map_cons, pensF, fr_prm q h.1, Option.toList, List.drop_succ_cons, List.drop_zero, List.singleton_append]
      rw [ih h.2 k (by simp at hk; omega)]
theorem pensF_len (k : Nat) (l : List (List Int)) : (pensF k l).length ≤ k := by
  induction k generalizing l with
  | zero => simp [pensF]
  | succ k ih =>
    cases l with
    | nil => simp [pensF]
    | cons p t =>
      simp only [pensF, List.length_append]
      have := ih ((p :: t).drop (frV (p :: t)).2)
      have : (frV (p :: t)).1.toList.length ≤ 1 := by cases (frV (p :: t)).1 <;> simp
      omega
/-- more steps than parameters say nothing more -/
theorem pensF_two (n : Nat) : ∀ (l : List (List Int)) (j k : Nat), l.length ≤ n → l.length ≤ j → l.length ≤ k → pensF j l = pensF k l := by
  induction n with
  | zero =>
    intro l j k hn hj hk
    cases l with
    | nil => cases j <;> cases k <;> rfl
    | cons a t => simp at hn
  | succ n ih =>
    intro l j k hn hj hk
    cases l with
    | nil => cases j <;> cases k <;> rfl
    | cons p t =>
      cases j with
      | zero => simp at hj
      | succ j =>
        cases k with
        | zero => simp at hk
        | succ k =>
          have h1 := frV_len (p :: t) (by simp)
          have hd : ((p :: t).drop (frV (p :: t)).2).length ≤ t.length := by rw [List.length_drop]; simp; omega
          simp only [List.length_cons] at hn hj hk
          simp only [pensF]
          rw [ih _ j k (by omega) (by omega) (by omega)]
def pensR (l : List (List Int)) : List Q4 := pensF l.length l
theorem pensR_step (l : List (List Int)) (h : l ≠ []) : pensR l = (frV l).1.toList ++ pensR (l.drop (frV l).2) := by
  cases l with
  | nil => exact absurd rfl h
  | cons p t =>
    have h1 := frV_len (p :: t) (by simp)
    have hd : ((p :: t).drop (frV (p :: t)).2).length ≤ t.length := by rw [List.length_drop]; simp; omega
    show pensF (t.length + 1) (p :: t) = _
    simp only [pensF]
    rw [pensF_two t.length _ t.length _ hd hd (Nat.le_refl _)]
    rfl
/-- Pens inverts Params -/
theorem back (l : List Q4) (h : l.all okQ = true) (hl : l ≠ []) : pensL (l.map prmV) = l := by
  unfold pensL
  rw [if_neg (by simpa using hl)]
  exact pensF_map l h _ (by simp)
theorem pensL_len (l : List (List Int)) : (pensL l).length ≤ max 1 l.length := by
  unfold pensL
  split
  · simp; omega
  · have := pensF_len l.length l; omega
theorem itx {c : Prop} [Decidable c] {a b : Option Q4} {q : Q4} (ha : a = some q → okQ q = true) (hb : b = some q → okQ q = true) : (if c then a else b) = some q → okQ q = true := by
  split <;> assumption
theorem lit_some (p q : Q4) (hp : okQ p = true) (h : some p = some q) : okQ q = true := by injection h with h; exact h ▸ hp
/-- the pen of a literal value is valid -/
theorem lit_ok (v : Int) (q : Q4) : litV v = some q → okQ q = true := by
  unfold litV
  repeat (refine itx (lit_some _ q (by decide)) ?_)
  intro h
  exact absurd h (by simp)
theorem cq1_ok (n c : Int) (hn : n = 4 ∨ n = 5 ∨ n = 6) (h0 : 0 ≤ c) (h1 : c ≤ 255) : okQ (cq n 1 c) = true := by
  rcases hn with rfl | rfl | rfl <;> simp [okQ, cq, fitP, okC, h0, h1]
theorem cq2_ok (n c : Int) (hn : n = 4 ∨ n = 5 ∨ n = 6) (h0 : 0 ≤ c) (h1 : c ≤ 16777215) : okQ (cq n 2 c) = true := by
  rcases hn with rfl | rfl | rfl <;> simp [okQ, cq, fitP, okC, h0, h1]
theorem wh_of (v : Int) (h : 0 ≤ whV v) : whV v = 4 ∨ whV v = 5 ∨ whV v = 6 := by
  unfold whV at *
  repeat' split at h
  all_goals simp_all
theorem inB_iff (z : Int) : inB z = true ↔ 0 ≤ z ∧ z ≤ 255 := by simp [inB]
theorem rgb_ok (v r g b : Int) (hw : 0 ≤ whV v) (h1 : inB r = true) (h2 : inB g = true) (h3 : inB b = true) : okQ (rgbQ (whV v) r g b) = true := by
  rw [inB_iff] at h1 h2 h3
  exact cq2_ok _ _ (wh_of v hw) (by omega) (by omega)
theorem sim_ok (v : Int) (q : Q4) (h : simV v = some q) : okQ q = true := by
  unfold simV at h
  split at h
  · rename_i q' hq; injection h with h; subst h; exact lit_ok v _ hq
  repeat' split at h
  all_goals first
    | (injection h with h; subst h; exact cq1_ok _ _ (by simp) (by omega) (by omega))
    | exact absurd h (by simp)
theorem alo_ok (p : List Int) (q : Q4) (h : aloV p = some q) : okQ q = true := by
  unfold aloV at h
  split at h
  · exact sim_ok _ q h
  · split at h
    · rename_i v a hc; injection h with h; subst h; obtain ⟨_, h0, h5⟩ := hc; simp [okQ, pq, fitP, none2, h0, h5]
    · exact absurd h (by simp)
  · split at h
    · rename_i hc; injection h with h; subst h; have hb := (inB_iff _).1 hc.2.2; exact cq1_ok _ _ (wh_of _ hc.1) hb.1 hb.2
    · exact absurd h (by simp)
  · split at h
    · rename_i hc; injection h with h; subst h; exact rgb_ok _ _ _ _ hc.1 hc.2.2.1 hc.2.2.2.1 hc.2.2.2.2
    · exact absurd h (by simp)
  · split at h
    · rename_i hc; injection h with h; subst h; exact rgb_ok _ _ _ _ hc.1 hc.2.2.1 hc.2.2.2.1 hc.2.2.2.2
    · exact absurd h (by simp)
  · exact absurd h (by simp)
theorem fr_ok (l : List (List Int)) (q : Q4) (h : (frV l).1 = some q) : okQ q = true := by
  unfold frV at h
  split at h
  · split at h
    · rename_i hw
      split at h
      · split at h
        · rename_i hb; simp only [Option.some.injEq] at h; subst h; rw [inB_iff] at hb; exact cq1_ok _ _ (wh_of _ hw) hb.1 hb.2
        · exact absurd h (by simp)
      · exact absurd h (by simp)
    · exact alo_ok _ q h
  · split at h
    · rename_i hw
      split at h
      · split at h
        · rename_i hb; simp only [Option.some.injEq] at h; subst h; exact rgb_ok _ _ _ _ hw hb.1 hb.2.1 hb.2.2
        · exact absurd h (by simp)
      · exact absurd h (by simp)
    · exact alo_ok _ q h
  · exact alo_ok _ q h
theorem pensF_ok (k : Nat) (l : List (List Int)) : (pensF k l).all okQ = true := by
  induction k generalizing l with
  | zero => rfl
  | succ k ih =>
    cases l with
    | nil => rfl
    | cons p t =>
      simp only [pensF, List.all_append, Bool.and_eq_true]
      refine ⟨?_, ih _⟩
      cases e : (frV (p :: t)).1 with
      | none => rfl
      | some q => simp [fr_ok _ q e]
/-- every pen that Pens returns is valid -/
theorem sound (l : List (List Int)) : (pensL l).all okQ = true := by
  unfold pensL
  split
  · decide
  · exact pensF_ok _ l
/-- the parameter of a valid pen is a valid one -/
theorem prm_right (q : Q4) (h : okQ q = true) : Par.wrongP (prmV q) = false ∧ prmV q ≠ [-1] := by
  rcases fit_cases q h with rfl | ⟨m, hm, rfl⟩ | ⟨m, hm, rfl⟩ | ⟨m, h0, h5, rfl⟩ | ⟨n, hn, rfl | ⟨c, h0, h1, rfl⟩ | ⟨c, h0, h1, rfl⟩⟩
  · decide
  · rcases attr_cases m hm with rfl | rfl | rfl | rfl | rfl | rfl | rfl | rfl <;> decide
  · rcases hm with rfl | ⟨hm, h1, h2⟩
    · decide
    · rcases attr_cases m hm with rfl | rfl | rfl | rfl | rfl | rfl | rfl | rfl <;> first | exact absurd rfl h1 | exact absurd rfl h2 | decide
  · have : m = 0 ∨ m = 1 ∨ m = 2 ∨ m = 3 ∨ m = 4 ∨ m = 5 := by omega
    rcases this with rfl | rfl | rfl | rfl | rfl | rfl <;> decide
  · rcases hn with rfl | rfl | rfl <;> decide
  · have hp : prmV (cq n 1 c) = if n ≠ 6 ∧ c < 8 then [38 + 10 * (n - 4) - 8 + c] else if n ≠ 6 ∧ c < 16 then [38 + 10 * (n - 4) + 44 + c] else [38 + 10 * (n - 4), 5, c] := by
      rcases hn with rfl | rfl | rfl <;> rfl
    rw [hp]
    repeat' split
    all_goals
      refine ⟨?_, ?_⟩
      · simp only [Par.wrongP, Par.wrongI, List.length_cons, List.length_nil, List.any_cons, List.any_nil, Bool.or_eq_false_iff, decide_eq_false_iff_not, and_true]; omega
      · simp <;> omega
  · have hp : prmV (cq n 2 c) = [38 + 10 * (n - 4), 2, -1, c / 65536, c / 256 % 256, c % 256] := by
      rcases hn with rfl | rfl | rfl <;> rfl
    rw [hp]
    refine ⟨?_, by simp⟩
    simp only [Par.wrongP, Par.wrongI, List.length_cons, List.length_nil, List.any_cons, List.any_nil, Bool.or_eq_false_iff, decide_eq_false_iff_not, and_true]; omega
theorem prms_right (l : List Q4) (h : l.all okQ = true) (hl : l.length ≤ 16) : Par.isBad (l.map prmV) = false := by
  simp only [Par.isBad, Bool.or_eq_false_iff, decide_eq_false_iff_not, List.length_map, List.any_map]
  refine ⟨⟨by omega, ?_⟩, ?_⟩
  · rw [List.any_eq_false]
    intro q hq
    simp only [Function.comp, (prm_right q (List.all_eq_true.1 h q hq)).1]
    decide
  · intro e
    cases l with
    | nil => simp at e
    | cons q t =>
      simp only [List.map_cons, List.cons.injEq] at e
      simp only [List.all_cons, Bool.and_eq_true] at h
      exact (prm_right q h.1).2 e.1
end Go.Proofs.YteepfecplabinaaDoor.Sgr
