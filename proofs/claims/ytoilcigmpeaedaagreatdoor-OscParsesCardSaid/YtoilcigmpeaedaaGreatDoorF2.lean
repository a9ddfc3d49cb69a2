/-
  B64Math OscMath OscP
-/
import Derived.Calls
import Derived.Lib.TrimByte
import Derived.Test.YtoilcigmpeaedaaGreatDoorF0
namespace Go.Proofs.YtoilcigmpeaedaaGreatDoor.B64

/-- the alphabet -/
def alpha : List UInt8 := [65, 66, 67, 68, 69, 70, 71, 72, 73, 74, 75, 76, 77, 78, 79, 80, 81, 82, 83, 84, 85, 86, 87, 88, 89, 90, 97, 98, 99, 100, 101, 102, 103, 104, 105, 106, 107, 108, 109, 110, 111, 112, 113, 114, 115, 116, 117, 118, 119, 120, 121, 122, 48, 49, 50, 51, 52, 53, 54, 55, 56, 57, 43, 47]
def ch (v : Nat) : UInt8 := alpha.getD v 0
def vl (c : UInt8) : Option Nat := alpha.findIdx? (· == c)
/-- values of what is pending (b, of k bits) and of the bytes behind it -/
def encV : Nat → Nat → List UInt8 → List Nat
  | b, k, [] => if k = 0 then [] else [b * 2 ^ (6 - k)]
  | b, k, x :: r => if k = 0 then x.toNat / 4 :: encV (x.toNat % 4) 2 r else if k = 2 then (b * 16 + x.toNat / 16) :: encV (x.toNat % 16) 4 r else (b * 4 + x.toNat / 64) :: x.toNat % 64 :: encV 0 0 r
def byt (n : Nat) : UInt8 := UInt8.ofNat n
/-- bytes of what is pending and of the values behind it -/
def decV : Nat → Nat → List Nat → List UInt8
  | _, _, [] => []
  | b, k, v :: r => if k = 0 then decV v 6 r else if k = 6 then byt (b * 4 + v / 16) :: decV (v % 16) 4 r else if k = 4 then byt (b * 16 + v / 4) :: decV (v % 4) 2 r else byt (b * 64 + v) :: decV 0 0 r
/-- what is pending at the end -/
def decE : Nat → Nat → List Nat → Nat × Nat
  | b, k, [] => (b, k)
  | _, k, v :: r => if k = 0 then decE v 6 r else if k = 6 then decE (v % 16) 4 r else if k = 4 then decE (v % 4) 2 r else decE 0 0 r
def okE (p : Nat × Nat) : Bool := decide (p.2 < 6) && decide (p.1 = 0)
def bareL (l : List UInt8) : List UInt8 := (encV 0 0 l).map ch
def padL (n : Nat) : List UInt8 := List.replicate ((4 - n % 4) % 4) 61
def encL (l : List UInt8) : List UInt8 := bareL l ++ padL (bareL l).length
/-- the values of characters, if all are of the alphabet -/
def valsL : List UInt8 → Option (List Nat)
  | [] => some []
  | c :: r => match vl c, valsL r with
    | some v, some vs => some (v :: vs)
    | _, _ => none
def trimL (t : List UInt8) : List UInt8 := Lib.trimRightB t 61
def decL (t : List UInt8) : Option (List UInt8) :=
  let p := trimL t
  if t ≠ p ∧ t ≠ p ++ padL p.length then none
  else match valsL p with
    | none => none
    | some vs => if okE (decE 0 0 vs) then some (decV 0 0 vs) else none
/-- the characters ahead of the first that is not of the alphabet -/
def preL : List UInt8 → List Nat
  | [] => []
  | c :: r => match vl c with
    | some v => v :: preL r
    | none => []
def refL (t : List UInt8) : Option (List UInt8) :=
  let x := decV 0 0 (preL t)
  if t ≠ bareL x ∧ t ≠ encL x then none else some x
def sizeI (n : Int) : Int := (max 0 (min n 1099511627776) + 2) / 3 * 4

theorem byt_toNat (n : Nat) (h : n < 256) : (byt n).toNat = n := by
  unfold byt
  simp [UInt8.toNat_ofNat']
  omega
theorem byt_self (x : UInt8) : byt x.toNat = x := by
  apply UInt8.toNat_inj.1
  exact byt_toNat _ x.toNat_lt

theorem encV0 (b : Nat) (x : UInt8) (r : List UInt8) : encV b 0 (x :: r) = x.toNat / 4 :: encV (x.toNat % 4) 2 r := by simp [encV]
theorem encV2 (b : Nat) (x : UInt8) (r : List UInt8) : encV b 2 (x :: r) = (b * 16 + x.toNat / 16) :: encV (x.toNat % 16) 4 r := by simp [encV]
theorem encV4 (b : Nat) (x : UInt8) (r : List UInt8) : encV b 4 (x :: r) = (b * 4 + x.toNat / 64) :: x.toNat % 64 :: encV 0 0 r := by simp [encV]
theorem enc_lt (l : List UInt8) : (∀ v ∈ encV 0 0 l, v < 64) ∧ (∀ b, b < 4 → ∀ v ∈ encV b 2 l, v < 64) ∧ (∀ b, b < 16 → ∀ v ∈ encV b 4 l, v < 64) := by
  induction l with
  | nil =>
    refine ⟨by simp [encV], fun b hb v hv => ?_, fun b hb v hv => ?_⟩ <;> · simp [encV] at hv; omega
  | cons x r ih =>
    have hx := x.toNat_lt
    obtain ⟨h0, h2, h4⟩ := ih
    refine ⟨fun v hv => ?_, fun b hb v hv => ?_, fun b hb v hv => ?_⟩
    · simp only [encV, if_true, List.mem_cons] at hv
      rcases hv with rfl | hv
      · omega
      · exact h2 _ (by omega) v hv
    · simp [encV] at hv
      rcases hv with rfl | hv
      · omega
      · exact h4 _ (by omega) v hv
    · simp [encV] at hv
      rcases hv with rfl | rfl | hv
      · omega
      · omega
      · exact h0 v hv
theorem dec_enc (l : List UInt8) : (decV 0 0 (encV 0 0 l) = l ∧ okE (decE 0 0 (encV 0 0 l)) = true) ∧
    (∀ a b, a < 64 → b < 4 → decV a 6 (encV b 2 l) = byt (a * 4 + b) :: l ∧ okE (decE a 6 (encV b 2 l)) = true) ∧
    (∀ a b, a < 16 → b < 16 → decV a 4 (encV b 4 l) = byt (a * 16 + b) :: l ∧ okE (decE a 4 (encV b 4 l)) = true) := by
  induction l with
  | nil =>
    refine ⟨⟨rfl, rfl⟩, fun a b ha hb => ?_, fun a b ha hb => ?_⟩
    · have e1 : b * 16 / 16 = b := by omega
      have e2 : b * 16 % 16 = 0 := by omega
      simp [encV, decV, decE, e1, e2, okE]
    · have e1 : b * 4 / 4 = b := by omega
      have e2 : b * 4 % 4 = 0 := by omega
      simp [encV, decV, decE, e1, e2, okE]
  | cons x r ih =>
    have hx := x.toNat_lt
    obtain ⟨h0, h2, h4⟩ := ih
    refine ⟨?_, fun a b ha hb => ?_, fun a b ha hb => ?_⟩
    · obtain ⟨e1, e2⟩ := h2 (x.toNat / 4) (x.toNat % 4) (by omega) (by omega)
      have e3 : x.toNat / 4 * 4 + x.toNat % 4 = x.toNat := by omega
      rw [e3, byt_self] at e1
      simp [encV, decV, decE, e1, e2]
    · have e3 : (b * 16 + x.toNat / 16) / 16 = b := by omega
      have e4 : (b * 16 + x.toNat / 16) % 16 = x.toNat / 16 := by omega
      obtain ⟨e1, e2⟩ := h4 (x.toNat / 16) (x.toNat % 16) (by omega) (by omega)
      have e5 : x.toNat / 16 * 16 + x.toNat % 16 = x.toNat := by omega
      rw [e5, byt_self] at e1
      simp [encV, decV, decE, e1, e2, e3, e4]
    · have e3 : (b * 4 + x.toNat / 64) / 4 = b := by omega
      have e4 : (b * 4 + x.toNat / 64) % 4 = x.toNat / 64 := by omega
      have e5 : x.toNat / 64 * 64 + x.toNat % 64 = x.toNat := by omega
      simp [encV, decV, decE, e3, e4, e5, h0.1, h0.2, byt_self]
theorem enc_dec (vs : List Nat) (hv : ∀ v ∈ vs, v < 64) : (okE (decE 0 0 vs) = true → encV 0 0 (decV 0 0 vs) = vs) ∧
    (∀ a, a < 64 → okE (decE a 6 vs) = true → encV 0 0 (decV a 6 vs) = a :: vs) ∧
    (∀ c a, c < 4 → a < 16 → okE (decE a 4 vs) = true → encV c 2 (decV a 4 vs) = (c * 16 + a) :: vs) ∧
    (∀ c a, c < 16 → a < 4 → okE (decE a 2 vs) = true → encV c 4 (decV a 2 vs) = (c * 4 + a) :: vs) := by
  induction vs with
  | nil =>
    refine ⟨fun _ => rfl, fun a ha h => ?_, fun c a hc ha h => ?_, fun c a hc ha h => ?_⟩
    · simp [decE, okE] at h
    · have h0 : a = 0 := by
        simp [decE, okE] at h
        exact of_decide_eq_true h
      subst h0
      simp [decV, encV]
    · have h0 : a = 0 := by
        simp [decE, okE] at h
        exact of_decide_eq_true h
      subst h0
      simp [decV, encV]
  | cons v r ih =>
    have hb := hv v (by simp)
    obtain ⟨h0, h6, h4, h2⟩ := ih fun u hu => hv u (by simp [hu])
    refine ⟨fun h => ?_, fun a ha h => ?_, fun c a hc ha h => ?_, fun c a hc ha h => ?_⟩
    · simp [decE] at h
      simp [decV]
      exact h6 v hb h
    · simp [decE] at h
      have e := byt_toNat (a * 4 + v / 16) (by omega)
      have e1 : (a * 4 + v / 16) / 4 = a := by omega
      have e2 : (a * 4 + v / 16) % 4 = v / 16 := by omega
      have e3 : decV a 6 (v :: r) = byt (a * 4 + v / 16) :: decV (v % 16) 4 r := by simp [decV]
      rw [e3, encV0, e, e1, e2, h4 (v / 16) (v % 16) (by omega) (by omega) h]
      congr 2; omega
    · simp [decE] at h
      have e := byt_toNat (a * 16 + v / 4) (by omega)
      have e1 : (a * 16 + v / 4) / 16 = a := by omega
      have e2 : (a * 16 + v / 4) % 16 = v / 4 := by omega
      have e3 : decV a 4 (v :: r) = byt (a * 16 + v / 4) :: decV (v % 4) 2 r := by simp [decV]
      rw [e3, encV2, e, e1, e2, h2 (v / 4) (v % 4) (by omega) (by omega) h]
      congr 2; omega
    · simp [decE] at h
      have e := byt_toNat (a * 64 + v) (by omega)
      have e1 : (a * 64 + v) / 64 = a := by omega
      have e2 : (a * 64 + v) % 64 = v := by omega
      have e3 : decV a 2 (v :: r) = byt (a * 64 + v) :: decV 0 0 r := by simp [decV]
      rw [e3, encV4, e, e1, e2, h0 h]
theorem vl_ch (v : Nat) (h : v < 64) : vl (ch v) = some v := by
  have : ∀ v : Fin 64, vl (ch v.val) = some v.val := by decide +kernel
  exact this ⟨v, h⟩
theorem ch_vl_all : ∀ c : Fin 256, ∀ v, vl (UInt8.ofNat c.val) = some v → v < 64 ∧ ch v = UInt8.ofNat c.val := by
  have : ∀ c : Fin 256, (match vl (UInt8.ofNat c.val) with | none => true | some v => decide (v < 64) && (ch v == UInt8.ofNat c.val)) = true := by decide +kernel
  intro c v hv
  have := this c
  rw [hv] at this
  simpa using this
theorem ch_vl (c : UInt8) (v : Nat) (h : vl c = some v) : v < 64 ∧ ch v = c := by
  have := ch_vl_all ⟨c.toNat, c.toNat_lt⟩ v (by simpa using h)
  simpa using this
theorem vl_pad : vl 61 = none := by decide +kernel
theorem ch_ne (v : Nat) (h : v < 64) : ch v ≠ 61 := fun e => by
  have := vl_ch v h
  rw [e, vl_pad] at this
  cases this
theorem vals_map (vs : List Nat) (h : ∀ v ∈ vs, v < 64) : valsL (vs.map ch) = some vs := by
  induction vs with
  | nil => rfl
  | cons v r ih =>
    rw [List.map_cons, valsL, vl_ch v (h v (by simp)), ih fun u hu => h u (by simp [hu])]
theorem map_vals (t : List UInt8) (vs : List Nat) (h : valsL t = some vs) : vs.map ch = t ∧ ∀ v ∈ vs, v < 64 := by
  induction t generalizing vs with
  | nil => cases h; simp
  | cons c r ih =>
    rw [valsL] at h
    split at h
    · rename_i v ws hv hw
      cases h
      obtain ⟨e1, e2⟩ := ih ws hw
      obtain ⟨e3, e4⟩ := ch_vl c v hv
      refine ⟨by rw [List.map_cons, e1, e4], fun u hu => ?_⟩
      rcases List.mem_cons.1 hu with rfl | hu
      · exact e3
      · exact e2 u hu
    · cases h
theorem bare_ne (x : List UInt8) : ∀ c ∈ bareL x, c ≠ 61 := by
  intro c hc
  unfold bareL at hc
  obtain ⟨v, hv, rfl⟩ := List.mem_map.1 hc
  exact ch_ne v ((enc_lt x).1 v hv)
theorem trim_pad (p : List UInt8) (h : ∀ c ∈ p, c ≠ 61) (n : Nat) : trimL (p ++ List.replicate n 61) = p := by
  unfold trimL Lib.trimRightB
  rw [List.reverse_append, List.reverse_replicate]
  have h1 : ∀ m, List.dropWhile (· == (61 : UInt8)) (List.replicate m 61 ++ p.reverse) = p.reverse := by
    intro m
    induction m with
    | zero =>
      rw [List.replicate_zero, List.nil_append]
      cases hp : p.reverse with
      | nil => rfl
      | cons c r =>
        have hc : c ∈ p := by rw [← List.mem_reverse, hp]; simp
        rw [List.dropWhile_cons_of_neg]
        simpa using h c hc
    | succ m ih =>
      rw [List.replicate_succ, List.cons_append, List.dropWhile_cons_of_pos (by simp)]
      exact ih
  rw [h1, List.reverse_reverse]
theorem trim_bare (x : List UInt8) : trimL (bareL x) = bareL x := by
  have := trim_pad (bareL x) (bare_ne x) 0
  simpa using this
theorem trim_enc (x : List UInt8) : trimL (encL x) = bareL x := trim_pad _ (bare_ne x) _
theorem decL_bare (x : List UInt8) : decL (bareL x) = some x := by
  obtain ⟨e1, e2⟩ := (dec_enc x).1
  unfold decL
  rw [trim_bare]
  simp only
  rw [if_neg (fun e => e.1 rfl)]
  unfold bareL
  rw [vals_map _ (enc_lt x).1]
  simp only
  rw [if_pos e2, e1]
theorem decL_enc (x : List UInt8) : decL (encL x) = some x := by
  obtain ⟨e1, e2⟩ := (dec_enc x).1
  unfold decL
  rw [trim_enc]
  simp only
  rw [if_neg (fun e => e.2 rfl)]
  unfold bareL
  rw [vals_map _ (enc_lt x).1]
  simp only
  rw [if_pos e2, e1]
theorem decL_only (t x : List UInt8) (h : decL t = some x) : t = bareL x ∨ t = encL x := by
  unfold decL at h
  simp only at h
  split at h
  · cases h
  · rename_i hne
    split at h
    · cases h
    · rename_i vs hvs
      split at h
      · rename_i hok
        cases h
        obtain ⟨e1, e2⟩ := map_vals _ _ hvs
        have e3 := (enc_dec vs e2).1 hok
        have e4 : bareL (decV 0 0 vs) = trimL t := by unfold bareL; rw [e3, e1]
        by_cases e5 : t = trimL t
        · exact Or.inl (by rw [e4]; exact e5)
        · refine Or.inr ?_
          unfold encL
          rw [e4]
          exact Decidable.byContradiction fun e6 => hne ⟨e5, e6⟩
      · cases h
theorem pre_map (vs : List Nat) (h : ∀ v ∈ vs, v < 64) (n : Nat) : preL (vs.map ch ++ List.replicate n 61) = vs := by
  induction vs with
  | nil =>
    cases n with
    | zero => rfl
    | succ n => rw [List.map_nil, List.nil_append, List.replicate_succ, preL, vl_pad]
  | cons v r ih =>
    rw [List.map_cons, List.cons_append, preL, vl_ch v (h v (by simp))]
    simp only
    rw [ih fun u hu => h u (by simp [hu])]
theorem ref_is (t : List UInt8) : refL t = decL t := by
  unfold refL
  simp only
  split
  · rename_i h
    cases hd : decL t with
    | none => rfl
    | some x =>
      exfalso
      have hx : preL t = encV 0 0 x := by
        rcases decL_only t x hd with e | e
        · rw [e]
          have := pre_map (encV 0 0 x) (enc_lt x).1 0
          simpa [bareL] using this
        · rw [e]
          exact pre_map (encV 0 0 x) (enc_lt x).1 _
      rw [hx, (dec_enc x).1.1] at h
      rcases decL_only t x hd with e | e
      · exact h.1 e
      · exact h.2 e
  · rename_i h
    have h2 : t = bareL (decV 0 0 (preL t)) ∨ t = encL (decV 0 0 (preL t)) := by
      by_cases e : t = bareL (decV 0 0 (preL t))
      · exact Or.inl e
      · exact Or.inr (Decidable.byContradiction fun e2 => h ⟨e, e2⟩)
    rcases h2 with e | e
    · conv => rhs; rw [e]
      rw [decL_bare]
    · conv => rhs; rw [e]
      rw [decL_enc]
theorem enc_len (l : List UInt8) : (encV 0 0 l).length = (4 * l.length + 2) / 3 ∧ (∀ b, (encV b 2 l).length = (4 * l.length + 3) / 3) ∧ (∀ b, (encV b 4 l).length = (4 * l.length + 4) / 3) := by
  induction l with
  | nil => simp [encV]
  | cons x r ih =>
    obtain ⟨h0, h2, h4⟩ := ih
    refine ⟨?_, fun b => ?_, fun b => ?_⟩
    · simp [encV, h2]; omega
    · simp [encV, h4]; omega
    · simp [encV, h0]; omega
theorem bare_len (l : List UInt8) : (bareL l).length = (4 * l.length + 2) / 3 := by
  unfold bareL
  rw [List.length_map]
  exact (enc_len l).1
theorem encL_len (l : List UInt8) : (encL l).length = (l.length + 2) / 3 * 4 := by
  unfold encL padL
  rw [List.length_append, List.length_replicate, bare_len]
  omega
theorem encV_app (n : Nat) : ∀ a b : List UInt8, a.length = 3 * n → encV 0 0 (a ++ b) = encV 0 0 a ++ encV 0 0 b := by
  induction n with
  | zero =>
    intro a b h
    cases a with
    | nil => rfl
    | cons x r => simp at h
  | succ n ih =>
    intro a b h
    match a, h with
    | x :: y :: z :: r, h =>
      have := ih r b (by simp at h; omega)
      simp [encV, this]
    | [], h => simp at h
    | [_], h => simp at h; omega
    | [_, _], h => simp at h; omega
theorem encL_app (a b : List UInt8) (h : a.length % 3 = 0) : encL (a ++ b) = encL a ++ encL b := by
  have e : bareL (a ++ b) = bareL a ++ bareL b := by
    unfold bareL
    rw [encV_app (a.length / 3) a b (by omega), List.map_append]
  have ha : padL (bareL a).length = [] := by
    unfold padL
    rw [bare_len]
    have : (4 - (4 * a.length + 2) / 3 % 4) % 4 = 0 := by omega
    rw [this]; rfl
  have hb : padL ((bareL a).length + (bareL b).length) = padL (bareL b).length := by
    unfold padL
    congr 1
    rw [bare_len]
    have : (4 * a.length + 2) / 3 % 4 = 0 := by omega
    omega
  unfold encL
  rw [e, List.length_append, hb, ha, List.append_nil, List.append_assoc]
end Go.Proofs.YtoilcigmpeaedaaGreatDoor.B64

namespace Go.Proofs.YtoilcigmpeaedaaGreatDoor.Osc
open Utf Col

/-- a code point that a title may not have -/
def badC (c : Int) : Bool := decide (c < 32) || (decide (127 ≤ c) && decide (c ≤ 159))
def titB (s : List UInt8) : Bool := decide (s.length ≤ 510) && ((codesL s).all (fun c => !badC c) && decide (textL (codesL s) = s))
/-- a number below 256 in decimal -/
def decN (n : Nat) : List UInt8 := if n < 10 then [UInt8.ofNat (48 + n)] else if n < 100 then [UInt8.ofNat (48 + n / 10), UInt8.ofNat (48 + n % 10)] else [UInt8.ofNat (48 + n / 100), UInt8.ofNat (48 + n / 10 % 10), UInt8.ofNat (48 + n % 10)]
def dvl : Nat → List UInt8 → Option Nat
  | n, [] => some n
  | n, b :: r => if 48 ≤ b.toNat ∧ b.toNat ≤ 57 then dvl (10 * n + (b.toNat - 48)) r else none
def num3 (s : List UInt8) : Option Nat := if s = [] ∨ 3 < s.length then none else (dvl 0 s).bind fun n => if n ≤ 255 then some n else none
/-- split at the first semicolon -/
def cutL : List UInt8 → Option (List UInt8 × List UInt8)
  | [] => none
  | b :: r => if b = 59 then some ([], r) else (cutL r).map fun p => (b :: p.1, p.2)
structure A6 where
  k : Int
  n : Int
  m : Int
  c0 : Int
  c1 : Int
  t : List UInt8
deriving DecidableEq

def prtO (a : A6) : Option (List UInt8) :=
  if a.k = 44 ∧ a.n = 0 ∧ a.m = 0 ∧ a.c0 = 0 ∧ a.c1 = 0 ∧ titB a.t = true then some (50 :: 59 :: a.t)
  else if a.k = 45 ∧ a.m = 0 ∧ a.t = [] ∧ 0 ≤ a.n ∧ a.n ≤ 255 ∧ a.c0 = 2 ∧ 0 ≤ a.c1 ∧ a.c1 ≤ 16777215 then some (52 :: 59 :: (decN a.n.toNat ++ 59 :: txt a.c1.toNat))
  else if a.k = 46 ∧ a.n = 0 ∧ a.m = 0 ∧ a.c0 = 0 ∧ a.c1 = 0 ∧ a.t.length ≤ 378 then some (53 :: 50 :: 59 :: 99 :: 59 :: B64.encL a.t)
  else none
def parT (r : List UInt8) : Option A6 := if titB r = true then some ⟨44, 0, 0, 0, 0, r⟩ else none
def parP (r : List UInt8) : Option A6 := (cutL r).bind fun p => (num3 p.1).bind fun n => (parseL p.2).bind fun x => some ⟨45, n, 0, 2, x, []⟩
def parC (r : List UInt8) : Option A6 := (cutL r).bind fun p => if p.1 = [99] then (B64.decL p.2).bind fun c => if c.length ≤ 378 then some ⟨46, 0, 0, 0, 0, c⟩ else none else none
def parO (s : List UInt8) : Option A6 :=
  if 512 < s.length then none else (cutL s).bind fun p => if p.1 = [48] ∨ p.1 = [50] then parT p.2 else if p.1 = [52] then parP p.2 else if p.1 = [53, 50] then parC p.2 else none
theorem cutL_app (a r : List UInt8) (h : ∀ b ∈ a, b ≠ 59) : cutL (a ++ 59 :: r) = some (a, r) := by
  induction a with
  | nil => simp [cutL]
  | cons x a ih =>
    have h1 : x ≠ 59 := h x (by simp)
    simp [cutL, h1, ih fun b hb => h b (by simp [hb])]
theorem decN_all : ∀ n : Fin 256, num3 (decN n.val) = some n.val ∧ (decN n.val).length ≤ 3 ∧ (decN n.val).all (fun b => decide (b ≠ 59) && decide (48 ≤ b.toNat) && decide (b.toNat ≤ 57)) = true := by decide +kernel
theorem num3_lt {s : List UInt8} {n : Nat} (h : num3 s = some n) : n ≤ 255 := by
  unfold num3 at h
  split at h
  · cases h
  · obtain ⟨m, _, hm⟩ := Option.bind_eq_some_iff.1 h
    split at hm
    · injection hm with hm; omega
    · cases hm
theorem txt_len (x : Nat) : (txt x).length = 12 := rfl
theorem prs_lt : ∀ (f s : List UInt8) (a x : Nat), prs f s a = some x → x < (a + 1) * 16 ^ (f.count 104)
  | [], _, a, x, h => by simp [prs] at h; simp; omega
  | g :: f, [], a, x, h => by
    simp [prs] at h
    subst h
    exact Nat.lt_of_lt_of_le (Nat.lt_succ_self a) (Nat.le_mul_of_pos_right _ (Nat.pow_pos (by decide)))
  | g :: f, c :: s, a, x, h => by
    unfold prs at h
    split at h
    · rename_i hg
      subst hg
      cases hd : dig c with
      | none => rw [hd] at h; cases h
      | some d =>
        rw [hd] at h
        have h1 := prs_lt f s (a * 16 + d) x h
        have h2 := dig_bd c d hd
        rw [List.count_cons_self, Nat.pow_succ]
        refine Nat.lt_of_lt_of_le h1 ?_
        rw [Nat.mul_comm (16 ^ _) 16, ← Nat.mul_assoc]
        exact Nat.mul_le_mul_right _ (by omega)
    · rename_i hg
      split at h
      · have h1 := prs_lt f s a x h
        rw [List.count_cons_of_ne (by intro e; exact hg (by simpa using e))]
        exact h1
      · cases h
theorem parseL_lt {s : List UInt8} {x : Nat} (h : parseL s = some x) : x < 16777216 := by
  unfold parseL at h
  split at h
  · have h1 := prs_lt formL s 0 x h
    have h2 : (0 + 1) * 16 ^ (formL.count 104) = 16777216 := by decide
    omega
  · cases h
/-- Parse inverts Print -/
theorem back {a : A6} {s : List UInt8} (h : prtO a = some s) : parO s = some a ∧ s.length ≤ 512 := by
  unfold prtO at h
  obtain ⟨k, n, m, c0, c1, t⟩ := a
  dsimp only at h
  split at h
  · rename_i hc
    obtain ⟨rfl, rfl, rfl, rfl, rfl, ht⟩ := hc
    injection h with h; subst h
    have hl : t.length ≤ 510 := by unfold titB at ht; simp only [Bool.and_eq_true, decide_eq_true_eq] at ht; exact ht.1
    have h2 : (50 :: 59 :: t).length ≤ 512 := by simp only [List.length_cons]; omega
    refine ⟨?_, h2⟩
    unfold parO
    rw [if_neg (by omega), show cutL (50 :: 59 :: t) = some ([50], t) from cutL_app [50] t (by decide)]
    simp [parT, ht]
  · split at h
    · rename_i hc
      obtain ⟨rfl, rfl, rfl, n0, n1, rfl, x0, x1⟩ := hc
      injection h with h; subst h
      obtain ⟨d1, d2, d3⟩ := decN_all ⟨n.toNat, by omega⟩
      dsimp only at d1 d2 d3
      have h2 : (52 :: 59 :: (decN n.toNat ++ 59 :: txt c1.toNat)).length ≤ 512 := by simp only [List.length_cons, List.length_append, txt_len]; omega
      refine ⟨?_, h2⟩
      unfold parO
      rw [if_neg (by omega), show cutL (52 :: 59 :: (decN n.toNat ++ 59 :: txt c1.toNat)) = some ([52], decN n.toNat ++ 59 :: txt c1.toNat) from cutL_app [52] _ (by decide)]
      have h3 : cutL (decN n.toNat ++ 59 :: txt c1.toNat) = some (decN n.toNat, txt c1.toNat) := cutL_app _ _ fun b hb => by
        have := List.all_eq_true.1 d3 b hb
        simp only [Bool.and_eq_true, decide_eq_true_eq] at this
        exact this.1.1
      simp [parP, h3, d1, parse_txt c1.toNat (by omega)]
      omega
    · split at h
      · rename_i hc
        obtain ⟨rfl, rfl, rfl, rfl, rfl, ht⟩ := hc
        injection h with h; subst h
        have h2 : (53 :: 50 :: 59 :: 99 :: 59 :: B64.encL t).length ≤ 512 := by simp only [List.length_cons, B64.encL_len]; omega
        refine ⟨?_, h2⟩
        unfold parO
        rw [if_neg (by omega), show cutL (53 :: 50 :: 59 :: 99 :: 59 :: B64.encL t) = some ([53, 50], 99 :: 59 :: B64.encL t) from cutL_app [53, 50] _ (by decide)]
        simp [parC, show cutL (99 :: 59 :: B64.encL t) = some ([99], B64.encL t) from cutL_app [99] _ (by decide), B64.decL_enc, ht]
      · cases h
theorem inj {a b : A6} {s : List UInt8} (h : prtO a = some s) (g : prtO b = some s) : a = b := by
  have h1 := (back h).1.symm.trans (back g).1
  injection h1
/-- what Parse returns has a text -/
theorem canon {s : List UInt8} {a : A6} (h : parO s = some a) : ∃ u, prtO a = some u := by
  unfold parO at h
  split at h
  · cases h
  · obtain ⟨p, _, h⟩ := Option.bind_eq_some_iff.1 h
    split at h
    · unfold parT at h
      split at h
      · rename_i ht
        injection h with h; subst h
        exact ⟨_, by unfold prtO; rw [if_pos ⟨rfl, rfl, rfl, rfl, rfl, ht⟩]⟩
      · cases h
    · split at h
      · obtain ⟨q, _, h⟩ := Option.bind_eq_some_iff.1 h
        obtain ⟨n, hn, h⟩ := Option.bind_eq_some_iff.1 h
        obtain ⟨x, hx, h⟩ := Option.bind_eq_some_iff.1 h
        injection h with h; subst h
        have h1 := num3_lt hn
        have h2 : x < 16777216 := parseL_lt hx
        exact ⟨_, by unfold prtO; rw [if_neg (by intro hc; exact absurd hc.1 (by show ¬ (45 : Int) = 44; decide)), if_pos ⟨rfl, rfl, rfl, by dsimp only; omega, by dsimp only; omega, rfl, by dsimp only; omega, by dsimp only; omega⟩]⟩
      · split at h
        · obtain ⟨q, _, h⟩ := Option.bind_eq_some_iff.1 h
          split at h
          · obtain ⟨c, hc, h⟩ := Option.bind_eq_some_iff.1 h
            split at h
            · rename_i hl
              injection h with h; subst h
              exact ⟨_, by unfold prtO; rw [if_neg (by intro hc; exact absurd hc.1 (by show ¬ (46 : Int) = 44; decide)), if_neg (by intro hc; exact absurd hc.1 (by show ¬ (46 : Int) = 45; decide)), if_pos ⟨rfl, rfl, rfl, rfl, rfl, hl⟩]⟩
            · cases h
          · cases h
        · cases h
/-- the code points of a list that begins with an ASCII byte -/
theorem codes_ascii (c : UInt8) (r : List UInt8) (h : c.toNat < 128) : codesL (c :: r) = (c.toNat : Int) :: codesL r := by
  have h1 := dec_1 c.toNat h []
  have h2 : UInt8.ofNat c.toNat = c := by apply UInt8.toNat_inj.1; rw [UInt8.toNat_ofNat']; have := c.toNat_lt; omega
  rw [h2] at h1
  unfold codesL
  rw [show c :: r = [c] ++ r from rfl, runL_app, h1, runL_shift [] _ r]
  simp
theorem tit_ctl (a : List UInt8) (c : UInt8) (b : List UInt8) (h : c.toNat < 32) : titB (a ++ c :: b) = false := by
  have h1 : codesL (a ++ c :: b) = codesL a ++ (c.toNat : Int) :: codesL b := by
    rw [codes_resync a c b (notc_first c (by omega)), codes_ascii c b (by omega)]
  unfold titB
  rw [h1, List.all_append, List.all_cons]
  have h2 : badC (c.toNat : Int) = true := by unfold badC; simp; omega
  simp [h2]
theorem textL_app (a b : List Int) : textL (a ++ b) = textL a ++ textL b := by
  induction a with
  | nil => rfl
  | cons x r ih => show encL x ++ textL (r ++ b) = encL x ++ textL r ++ textL b; rw [ih, List.append_assoc]
theorem tit_c3 (a r : List UInt8) (ha : textL (codesL a) = a) (hr : textL (codesL r) = r) (hn : r = [] ∨ ∃ f q, r = f :: q ∧ notc f = true) : titB (a ++ 195 :: r) = false := by
  have h0 : codesL [195] = [65533] := by decide +kernel
  have h1 : codesL (195 :: r) = 65533 :: codesL r := by
    rcases hn with rfl | ⟨f, q, rfl, hf⟩
    · rw [h0]; rfl
    · rw [show (195 : UInt8) :: f :: q = [195] ++ f :: q from rfl, codes_resync [195] f q hf, h0]; rfl
  have h2 : codesL (a ++ 195 :: r) = codesL a ++ 65533 :: codesL r := by
    rw [codes_resync a 195 r (by decide), h1]
  have h3 : (textL (codesL (a ++ 195 :: r))).length = a.length + 3 + r.length := by
    rw [h2, textL_app, ha, show textL (65533 :: codesL r) = encL 65533 ++ textL (codesL r) from rfl, hr, List.length_append, List.length_append, show (encL 65533).length = 3 by decide +kernel]
    omega
  unfold titB
  have h4 : ¬ textL (codesL (a ++ 195 :: r)) = a ++ 195 :: r := fun e => by
    rw [e] at h3
    simp only [List.length_append, List.length_cons] at h3
    omega
  rw [decide_eq_false h4]
  simp
theorem tit_long (s : List UInt8) (h : 510 < s.length) : titB s = false := by
  unfold titB
  rw [decide_eq_false (by omega)]
  rfl
end Go.Proofs.YtoilcigmpeaedaaGreatDoor.Osc

namespace Go.Proofs.YtoilcigmpeaedaaGreatDoor.Osc
open Utf Col

/-- a code point that a title may have -/
def okT (c : Int) : Bool := chk c && !badC c
def fixC (c : Int) : Int := if okT c = true then c else 32 + (c % 18446744073709551616) % 95
def addT (s : List UInt8) (c : Int) : List UInt8 := if s.length + (encL (fixC c)).length ≤ 510 then s ++ encL (fixC c) else s
def titF (l : List Int) : List UInt8 := (l.take 200).foldl addT []
theorem fix_ok (c : Int) : okT (fixC c) = true := by
  unfold fixC
  split
  · assumption
  · have h1 : 0 ≤ (c % 18446744073709551616) % 95 ∧ (c % 18446744073709551616) % 95 < 95 := by omega
    obtain ⟨h2, h3⟩ := h1
    generalize (c % 18446744073709551616) % 95 = x at h2 h3
    unfold okT chk badC
    simp
    omega
theorem okT_rep (c : Int) (h : okT c = true) : rep c = c := by
  unfold okT at h
  rw [Bool.and_eq_true] at h
  unfold rep
  rw [if_pos h.1]
theorem tit_text (zs : List Int) (h : zs.all okT = true) (hl : (textL zs).length ≤ 510) : titB (textL zs) = true := by
  have h1 : codesL (textL zs) = zs := by
    rw [codes_text]
    have : ∀ l : List Int, l.all okT = true → l.map rep = l := by
      intro l
      induction l with
      | nil => intro _; rfl
      | cons x r ih =>
        intro h
        rw [List.all_cons, Bool.and_eq_true] at h
        rw [List.map_cons, okT_rep x h.1, ih h.2]
    exact this zs h
  unfold titB
  rw [h1, decide_eq_true hl, decide_eq_true rfl, Bool.and_true, Bool.true_and, List.all_eq_true]
  intro x hx
  have := List.all_eq_true.1 h x hx
  unfold okT at this
  rw [Bool.and_eq_true] at this
  exact this.2
theorem fold_ok (l : List Int) : ∃ zs : List Int, l.foldl addT [] = textL zs ∧ zs.all okT = true ∧ (textL zs).length ≤ 510 := by
  have : ∀ (l : List Int) (zs : List Int), zs.all okT = true → (textL zs).length ≤ 510 → ∃ ys : List Int, l.foldl addT (textL zs) = textL ys ∧ ys.all okT = true ∧ (textL ys).length ≤ 510 := by
    intro l
    induction l with
    | nil => exact fun zs h h2 => ⟨zs, rfl, h, h2⟩
    | cons x r ih =>
      intro zs h h2
      rw [List.foldl_cons]
      by_cases hx : (textL zs).length + (encL (fixC x)).length ≤ 510
      · have e : addT (textL zs) x = textL (zs ++ [fixC x]) := by rw [addT, if_pos hx, textL_snoc]
        rw [e]
        refine ih _ ?_ ?_
        · rw [List.all_append, h, List.all_cons, fix_ok]; rfl
        · rw [textL_snoc, List.length_append]; exact hx
      · have e : addT (textL zs) x = textL zs := by rw [addT, if_neg hx]
        rw [e]
        exact ih zs h h2
  exact this l [] rfl (by decide)
theorem titF_ok (l : List Int) : titB (titF l) = true := by
  obtain ⟨zs, h1, h2, h3⟩ := fold_ok (l.take 200)
  unfold titF
  rw [h1]
  exact tit_text zs h2 h3
theorem titF_len (l : List Int) : (titF l).length ≤ 510 := by
  obtain ⟨zs, h1, h2, h3⟩ := fold_ok (l.take 200)
  unfold titF
  rw [h1]
  exact h3
theorem fold_len (l : List Int) : (l.foldl addT []).length ≤ 510 := by
  obtain ⟨zs, h1, h2, h3⟩ := fold_ok l
  rw [h1]
  exact h3
theorem fold_snoc (zs : List Int) (k : Nat) (z : Int) (hz : zs[k]? = some z) : (zs.take (k + 1)).foldl addT [] = addT ((zs.take k).foldl addT []) z := by
  rw [List.take_add_one, hz]
  simp [List.foldl_append]
end Go.Proofs.YtoilcigmpeaedaaGreatDoor.Osc
