/-
  Plain facts on base64: what the encoder and the decoder compute, as functions of lists; no program is named here.
-/
import Derived.Calls
import Derived.Lib.TrimByte
namespace Go.Proofs.YtoilcigmpeaedaaGreatDoor.B64

/-- the alphabet -/
def alpha : List UInt8 := [65, 66, 67, 68, 69, 70, 71, 72, 73, 74, 75, 76, 77, 78, 79, 80, 81, 82, 83, 84, 85, 86, 87, 88, 89, 90, 97, 98, 99, 100, 101, 102, 103, 104, 105, 106, 107, 108, 109, 110, 111, 112, 113, 114, 115, 116, 117, 118, 119, 120, 121, 122, 48, 49, 50, 51, 52, 53, 54, 55, 56, 57, 43, 47]
def ch (v : Nat) : UInt8 := alpha.getD v 0
def vl (c : UInt8) : Option Nat := alpha.findIdx? (· == c)
/-- values of what is pending (b, of k bits) and of the bytes behind it -/
def encV : Nat → Nat → List UInt8 → List Nat
  | b, k, [] => if k = 0 then [] else [b * 2 ^ (6 - k)]
  | b, k, x :: r => if k = 0 then x.toNat / 4 :: encV (x.toNat % 4) 2 r else if k = 2 then (b * 16 + x.toNat / 16) :: encV (x.toNat % 16) 4 r else (b * 4 + x.toNat / 64) :: x.toNat % 64 :: encV 0 0 r
def byt (n : Nat) : UInt8 := UInt8.ofNat n
/-- bytes of what is pending and of the values behind it -/
def decV : Nat → Nat → List Nat → List UInt8
  | _, _, [] => []
  | b, k, v :: r => if k = 0 then decV v 6 r else if k = 6 then byt (b * 4 + v / 16) :: decV (v % 16) 4 r else if k = 4 then byt (b * 16 + v / 4) :: decV (v % 4) 2 r else byt (b * 64 + v) :: decV 0 0 r
/-- what is pending at the end -/
def decE : Nat → Nat → List Nat → Nat × Nat
  | b, k, [] => (b, k)
  | _, k, v :: r => if k = 0 then decE v 6 r else if k = 6 then decE (v % 16) 4 r else if k = 4 then decE (v % 4) 2 r else decE 0 0 r
def okE (p : Nat × Nat) : Bool := decide (p.2 < 6) && decide (p.1 = 0)
def bareL (l : List UInt8) : List UInt8 := (encV 0 0 l).map ch
def padL (n : Nat) : List UInt8 := List.replicate ((4 - n % 4) % 4) 61
def encL (l : List UInt8) : List UInt8 := bareL l ++ padL (bareL l).length
/-- the values of characters, if all are of the alphabet -/
def valsL : List UInt8 → Option (List Nat)
  | [] => some []
  | c :: r => match vl c, valsL r with
    | some v, some vs => some (v :: vs)
    | _, _ => none
def trimL (t : List UInt8) : List UInt8 := Lib.trimRightB t 61
def decL (t : List UInt8) : Option (List UInt8) :=
  let p := trimL t
  if t ≠ p ∧ t ≠ p ++ padL p.length then none
  else match valsL p with
    | none => none
    | some vs => if okE (decE 0 0 vs) then some (decV 0 0 vs) else none
/-- the characters ahead of the first that is not of the alphabet -/
def preL : List UInt8 → List Nat
  | [] => []
  | c :: r => match vl c with
    | some v => v :: preL r
    | none => []
def refL (t : List UInt8) : Option (List UInt8) :=
  let x := decV 0 0 (preL t)
  if t ≠ bareL x ∧ t ≠ encL x then none else some x
def sizeI (n : Int) : Int := (max 0 (min n 1099511627776) + 2) / 3 * 4

theorem byt_toNat (n : Nat) (h : n < 256) : (byt n).toNat = n := by
  unfold byt
  simp [UInt8.toNat_ofNat']
  omega
theorem byt_self (x : UInt8) : byt x.toNat = x := by
  apply UInt8.toNat_inj.1
  exact byt_toNat _ x.toNat_lt

theorem encV0 (b : Nat) (x : UInt8) (r : List UInt8) : encV b 0 (x :: r) = x.toNat / 4 :: encV (x.toNat % 4) 2 r := by simp [encV]
theorem encV2 (b : Nat) (x : UInt8) (r : List UInt8) : encV b 2 (x :: r) = (b * 16 + x.toNat / 16) :: encV (x.toNat % 16) 4 r := by simp [encV]
theorem encV4 (b : Nat) (x : UInt8) (r : List UInt8) : encV b 4 (x :: r) = (b * 4 + x.toNat / 64) :: x.toNat % 64 :: encV 0 0 r := by simp [encV]
theorem enc_lt (l : List UInt8) : (∀ v ∈ encV 0 0 l, v < 64) ∧ (∀ b, b < 4 → ∀ v ∈ encV b 2 l, v < 64) ∧ (∀ b, b < 16 → ∀ v ∈ encV b 4 l, v < 64) := by
  induction l with
  | nil =>
    refine ⟨by simp [encV], fun b hb v hv => ?_, fun b hb v hv => ?_⟩ <;> · simp [encV] at hv; omega
  | cons x r ih =>
    have hx := x.toNat_lt
    obtain ⟨h0, h2, h4⟩ := ih
    refine ⟨fun v hv => ?_, fun b hb v hv => ?_, fun b hb v hv => ?_⟩
    · simp only [encV, if_true, List.mem_cons] at hv
      rcases hv with rfl | hv
      · omega
      · exact h2 _ (by omega) v hv
    · simp [encV] at hv
      rcases hv with rfl | hv
      · omega
      · exact h4 _ (by omega) v hv
    · simp [encV] at hv
      rcases hv with rfl | rfl | hv
      · omega
      · omega
      · exact h0 v hv
theorem dec_enc (l : List UInt8) : (decV 0 0 (encV 0 0 l) = l ∧ okE (decE 0 0 (encV 0 0 l)) = true) ∧
    (∀ a b, a < 64 → b < 4 → decV a 6 (encV b 2 l) = byt (a * 4 + b) :: l ∧ okE (decE a 6 (encV b 2 l)) = true) ∧
    (∀ a b, a < 16 → b < 16 → decV a 4 (encV b 4 l) = byt (a * 16 + b) :: l ∧ okE (decE a 4 (encV b 4 l)) = true) := by
  induction l with
  | nil =>
    refine ⟨⟨rfl, rfl⟩, fun a b ha hb => ?_, fun a b ha hb => ?_⟩
    · have e1 : b * 16 / 16 = b := by omega
      have e2 : b * 16 % 16 = 0 := by omega
      simp [encV, decV, decE, e1, e2, okE]
    · have e1 : b * 4 / 4 = b := by omega
      have e2 : b * 4 % 4 = 0 := by omega
      simp [encV, decV, decE, e1, e2, okE]
  | cons x r ih =>
    have hx := x.toNat_lt
    obtain ⟨h0, h2, h4⟩ := ih
    refine ⟨?_, fun a b ha hb => ?_, fun a b ha hb => ?_⟩
    · obtain ⟨e1, e2⟩ := h2 (x.toNat / 4) (x.toNat % 4) (by omega) (by omega)
      have e3 : x.toNat / 4 * 4 + x.toNat % 4 = x.toNat := by omega
      rw [e3, byt_self] at e1
      simp [encV, decV, decE, e1, e2]
    · have e3 : (b * 16 + x.toNat / 16) / 16 = b := by omega
      have e4 : (b * 16 + x.toNat / 16) % 16 = x.toNat / 16 := by omega
      obtain ⟨e1, e2⟩ := h4 (x.toNat / 16) (x.toNat % 16) (by omega) (by omega)
      have e5 : x.toNat / 16 * 16 + x.toNat % 16 = x.toNat := by omega
      rw [e5, byt_self] at e1
      simp [encV, decV, decE, e1, e2, e3, e4]
    · have e3 : (b * 4 + x.toNat / 64) / 4 = b := by omega
      have e4 : (b * 4 + x.toNat / 64) % 4 = x.toNat / 64 := by omega
      have e5 : x.toNat / 64 * 64 + x.toNat % 64 = x.toNat := by omega
      simp [encV, decV, decE, e3, e4, e5, h0.1, h0.2, byt_self]
theorem enc_dec (vs : List Nat) (hv : ∀ v ∈ vs, v < 64) : (okE (decE 0 0 vs) = true → encV 0 0 (decV 0 0 vs) = vs) ∧
    (∀ a, a < 64 → okE (decE a 6 vs) = true → encV 0 0 (decV a 6 vs) = a :: vs) ∧
    (∀ c a, c < 4 → a < 16 → okE (decE a 4 vs) = true → encV c 2 (decV a 4 vs) = (c * 16 + a) :: vs) ∧
    (∀ c a, c < 16 → a < 4 → okE (decE a 2 vs) = true → encV c 4 (decV a 2 vs) = (c * 4 + a) :: vs) := by
  induction vs with
  | nil =>
    refine ⟨fun _ => rfl, fun a ha h => ?_, fun c a hc ha h => ?_, fun c a hc ha h => ?_⟩
    · simp [decE, okE] at h
    · have h0 : a = 0 := by
        simp [decE, okE] at h
        exact of_decide_eq_true h
      subst h0
      simp [decV, encV]
    · have h0 : a = 0 := by
        simp [decE, okE] at h
        exact of_decide_eq_true h
      subst h0
      simp [decV, encV]
  | cons v r ih =>
    have hb := hv v (by simp)
    obtain ⟨h0, h6, h4, h2⟩ := ih fun u hu => hv u (by simp [hu])
    refine ⟨fun h => ?_, fun a ha h => ?_, fun c a hc ha h => ?_, fun c a hc ha h => ?_⟩
    · simp [decE] at h
      simp [decV]
      exact h6 v hb h
    · simp [decE] at h
      have e := byt_toNat (a * 4 + v / 16) (by omega)
      have e1 : (a * 4 + v / 16) / 4 = a := by omega
      have e2 : (a * 4 + v / 16) % 4 = v / 16 := by omega
      have e3 : decV a 6 (v :: r) = byt (a * 4 + v / 16) :: decV (v % 16) 4 r := by simp [decV]
      rw [e3, encV0, e, e1, e2, h4 (v / 16) (v % 16) (by omega) (by omega) h]
      congr 2; omega
    · simp [decE] at h
      have e := byt_toNat (a * 16 + v / 4) (by omega)
      have e1 : (a * 16 + v / 4) / 16 = a := by omega
      have e2 : (a * 16 + v / 4) % 16 = v / 4 := by omega
      have e3 : decV a 4 (v :: r) = byt (a * 16 + v / 4) :: decV (v % 4) 2 r := by simp [decV]
      rw [e3, encV2, e, e1, e2, h2 (v / 4) (v % 4) (by omega) (by omega) h]
      congr 2; omega
    · simp [decE] at h
      have e := byt_toNat (a * 64 + v) (by omega)
      have e1 : (a * 64 + v) / 64 = a := by omega
      have e2 : (a * 64 + v) % 64 = v := by omega
      have e3 : decV a 2 (v :: r) = byt (a * 64 + v) :: decV 0 0 r := by simp [decV]
      rw [e3, encV4, e, e1, e2, h0 h]
theorem vl_ch (v : Nat) (h : v < 64) : vl (ch v) = some v := by
  have : ∀ v : Fin 64, vl (ch v.val) = some v.val := by decide +kernel
  exact this ⟨v, h⟩
theorem ch_vl_all : ∀ c : Fin 256, ∀ v, vl (UInt8.ofNat c.val) = some v → v < 64 ∧ ch v = UInt8.ofNat c.val := by
  have : ∀ c : Fin 256, (match vl (UInt8.ofNat c.val) with | none => true | some v => decide (v < 64) && (ch v == UInt8.ofNat c.val)) = true := by decide +kernel
  intro c v hv
  have := this c
  rw [hv] at this
  simpa using this
theorem ch_vl (c : UInt8) (v : Nat) (h : vl c = some v) : v < 64 ∧ ch v = c := by
  have := ch_vl_all ⟨c.toNat, c.toNat_lt⟩ v (by simpa using h)
  simpa using this
theorem vl_pad : vl 61 = none := by decide +kernel
theorem ch_ne (v : Nat) (h : v < 64) : ch v ≠ 61 := fun e => by
  have := vl_ch v h
  rw [e, vl_pad] at this
  cases this
theorem vals_map (vs : List Nat) (h : ∀ v ∈ vs, v < 64) : valsL (vs.map ch) = some vs := by
  induction vs with
  | nil => rfl
  | cons v r ih =>
    rw [List.map_cons, valsL, vl_ch v (h v (by simp)), ih fun u hu => h u (by simp [hu])]
theorem map_vals (t : List UInt8) (vs : List Nat) (h : valsL t = some vs) : vs.map ch = t ∧ ∀ v ∈ vs, v < 64 := by
  induction t generalizing vs with
  | nil => cases h; simp
  | cons c r ih =>
    rw [valsL] at h
    split at h
    · rename_i v ws hv hw
      cases h
      obtain ⟨e1, e2⟩ := ih ws hw
      obtain ⟨e3, e4⟩ := ch_vl c v hv
      refine ⟨by rw [List.map_cons, e1, e4], fun u hu => ?_⟩
      rcases List.mem_cons.1 hu with rfl | hu
      · exact e3
      · exact e2 u hu
    · cases h
theorem bare_ne (x : List UInt8) : ∀ c ∈ bareL x, c ≠ 61 := by
  intro c hc
  unfold bareL at hc
  obtain ⟨v, hv, rfl⟩ := List.mem_map.1 hc
  exact ch_ne v ((enc_lt x).1 v hv)
theorem trim_pad (p : List UInt8) (h : ∀ c ∈ p, c ≠ 61) (n : Nat) : trimL (p ++ List.replicate n 61) = p := by
  unfold trimL Lib.trimRightB
  rw [List.reverse_append, List.reverse_replicate]
  have h1 : ∀ m, List.dropWhile (· == (61 : UInt8)) (List.replicate m 61 ++ p.reverse) = p.reverse := by
    intro m
    induction m with
    | zero =>
      rw [List.replicate_zero, List.nil_append]
      cases hp : p.reverse with
      | nil => rfl
      | cons c r =>
        have hc : c ∈ p := by rw [← List.mem_reverse, hp]; simp
        rw [List.dropWhile_cons_of_neg]
        simpa using h c hc
    | succ m ih =>
      rw [List.replicate_succ, List.cons_append, List.dropWhile_cons_of_pos (by simp)]
      exact ih
  rw [h1, List.reverse_reverse]
theorem trim_bare (x : List UInt8) : trimL (bareL x) = bareL x := by
  have := trim_pad (bareL x) (bare_ne x) 0
  simpa using this
theorem trim_enc (x : List UInt8) : trimL (encL x) = bareL x := trim_pad _ (bare_ne x) _
theorem decL_bare (x : List UInt8) : decL (bareL x) = some x := by
  obtain ⟨e1, e2⟩ := (dec_enc x).1
  unfold decL
  rw [trim_bare]
  simp only
  rw [if_neg (fun e => e.1 rfl)]
  unfold bareL
  rw [vals_map _ (enc_lt x).1]
  simp only
  rw [if_pos e2, e1]
theorem decL_enc (x : List UInt8) : decL (encL x) = some x := by
  obtain ⟨e1, e2⟩ := (dec_enc x).1
  unfold decL
  rw [trim_enc]
  simp only
  rw [if_neg (fun e => e.2 rfl)]
  unfold bareL
  rw [vals_map _ (enc_lt x).1]
  simp only
  rw [if_pos e2, e1]
theorem decL_only (t x : List UInt8) (h : decL t = some x) : t = bareL x ∨ t = encL x := by
  unfold decL at h
  simp only at h
  split at h
  · cases h
  · rename_i hne
    split at h
    · cases h
    · rename_i vs hvs
      split at h
      · rename_i hok
        cases h
        obtain ⟨e1, e2⟩ := map_vals _ _ hvs
        have e3 := (enc_dec vs e2).1 hok
        have e4 : bareL (decV 0 0 vs) = trimL t := by unfold bareL; rw [e3, e1]
        by_cases e5 : t = trimL t
        · exact Or.inl (by rw [e4]; exact e5)
        · refine Or.inr ?_
          unfold encL
          rw [e4]
          exact Decidable.byContradiction fun e6 => hne ⟨e5, e6⟩
      · cases h
theorem pre_map (vs : List Nat) (h : ∀ v ∈ vs, v < 64) (n : Nat) : preL (vs.map ch ++ List.replicate n 61) = vs := by
  induction vs with
  | nil =>
    cases n with
    | zero => rfl
    | succ n => rw [List.map_nil, List.nil_append, List.replicate_succ, preL, vl_pad]
  | cons v r ih =>
    rw [List.map_cons, List.cons_append, preL, vl_ch v (h v (by simp))]
    simp only
    rw [ih fun u hu => h u (by simp [hu])]
theorem ref_is (t : List UInt8) : refL t = decL t := by
  unfold refL
  simp only
  split
  · rename_i h
    cases hd : decL t with
    | none => rfl
    | some x =>
      exfalso
      have hx : preL t = encV 0 0 x := by
        rcases decL_only t x hd with e | e
        · rw [e]
          have := pre_map (encV 0 0 x) (enc_lt x).1 0
          simpa [bareL] using this
        · rw [e]
          exact pre_map (encV 0 0 x) (enc_lt x).1 _
      rw [hx, (dec_enc x).1.1] at h
      rcases decL_only t x hd with e | e
      · exact h.1 e
      · exact h.2 e
  · rename_i h
    have h2 : t = bareL (decV 0 0 (preL t)) ∨ t = encL (decV 0 0 (preL t)) := by
      by_cases e : t = bareL (decV 0 0 (preL t))
      · exact Or.inl e
      · exact Or.inr (Decidable.byContradiction fun e2 => h ⟨e, e2⟩)
    rcases h2 with e | e
    · conv => rhs; rw [e]
      rw [decL_bare]
    · conv => rhs; rw [e]
      rw [decL_enc]
theorem enc_len (l : List UInt8) : (encV 0 0 l).length = (4 * l.length + 2) / 3 ∧ (∀ b, (encV b 2 l).length = (4 * l.length + 3) / 3) ∧ (∀ b, (encV b 4 l).length = (4 * l.length + 4) / 3) := by
  induction l with
  | nil => simp [encV]
  | cons x r ih =>
    obtain ⟨h0, h2, h4⟩ := ih
    refine ⟨?_, fun b => ?_, fun b => ?_⟩
    · simp [encV, h2]; omega
    · simp [encV, h4]; omega
    · simp [encV, h0]; omega
theorem bare_len (l : List UInt8) : (bareL l).length = (4 * l.length + 2) / 3 := by
  unfold bareL
  rw [List.length_map]
  exact (enc_len l).1
theorem encL_len (l : List UInt8) : (encL l).length = (l.length + 2) / 3 * 4 := by
  unfold encL padL
  rw [List.length_append, List.length_replicate, bare_len]
  omega
theorem encV_app (n : Nat) : ∀ a b : List UInt8, a.length = 3 * n → encV 0 0 (a ++ b) = encV 0 0 a ++ encV 0 0 b := by
  induction n with
  | zero =>
    intro a b h
    cases a with
    | nil => rfl
    | cons x r => simp at h
  | succ n ih =>
    intro a b h
    match a, h with
    | x :: y :: z :: r, h =>
      have := ih r b (by simp at h; omega)
      simp [encV, this]
    | [], h => simp at h
    | [_], h => simp at h; omega
    | [_, _], h => simp at h; omega
theorem encL_app (a b : List UInt8) (h : a.length % 3 = 0) : encL (a ++ b) = encL a ++ encL b := by
  have e : bareL (a ++ b) = bareL a ++ bareL b := by
    unfold bareL
    rw [encV_app (a.length / 3) a b (by omega), List.map_append]
  have ha : padL (bareL a).length = [] := by
    unfold padL
    rw [bare_len]
    have : (4 - (4 * a.length + 2) / 3 % 4) % 4 = 0 := by omega
    rw [this]; rfl
  have hb : padL ((bareL a).length + (bareL b).length) = padL (bareL b).length := by
    unfold padL
    congr 1
    rw [bare_len]
    have : (4 * a.length + 2) / 3 % 4 = 0 := by omega
    omega
  unfold encL
  rw [e, List.length_append, hb, ha, List.append_nil, List.append_assoc]
end Go.Proofs.YtoilcigmpeaedaaGreatDoor.B64
