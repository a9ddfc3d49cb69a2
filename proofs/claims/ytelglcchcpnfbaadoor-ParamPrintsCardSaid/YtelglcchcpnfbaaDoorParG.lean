/-
  Value, of the program and of the reference.
-/
import Derived.Test.YtelglcchcpnfbaaDoorParB
namespace Go.Proofs.YtelglcchcpnfbaaDoor.Par
open Go.RowKit Utf

theorem RL.form {w : World} {v : Value} {l : List (List Int)} (h : RL w v l) : ∃ A c, v = .slice A l.length c := by
  obtain ⟨A, c, vs, rfl, -⟩ := h
  exact ⟨A, c, rfl⟩
theorem RL.item {w : World} {A : Option Addr} {n c : Nat} {l : List (List Int)} (h : RL w (.slice A n c) l) {k : Nat} {p : List Int} (hp : l[k]? = some p) : ∃ ad B cc, A = some ad ∧ ad.block < w.heap.size ∧ w.cell? (ad.add k) = some (.slice B p.length cc) ∧ p.length ≤ cc ∧ Rd w B (cI p) := by
  obtain ⟨A', c', vs, he, h1, h2, h3, h4, h5, h6⟩ := h
  have hk : k < l.length := (List.getElem?_eq_some_iff.1 hp).1
  obtain ⟨x, hx⟩ := get_some vs k (by omega)
  obtain ⟨B, cc, rfl, g1, _, _, g4⟩ := h6 k x p hx hp
  obtain ⟨ad, rfl, hlt, hc⟩ := h5 k _ hx
  cases he
  exact ⟨ad, B, cc, rfl, hlt, hc, g1, g4⟩
set_option maxRecDepth 100000 in
set_option maxHeartbeats 1000000 in
theorem value_neg (v : Value) (l : List (List Int)) (i n0 : Int) (w : World) (h : RL w v l) (hi : i < 0) : Calls Tryd.prog 18 #[v, .int .i64 i, .int .i64 n0] w fun e w' => e = .returned (.int .i64 n0) ∧ Below w.heap.size w w' := by
  obtain ⟨A, c, rfl⟩ := h.form
  obtain ⟨n, hn⟩ : ∃ n, n = l.length := ⟨_, rfl⟩
  rw [← hn]
  have g1 : decide (i < 0) = true := decide_eq_true (by omega)
  clear h hn
  go_enter Tryd.func18, Tryd.ntmps18
  go_wp2
  go_ret
  exact ⟨rfl, Below.refl _ _⟩
set_option maxRecDepth 100000 in
set_option maxHeartbeats 1000000 in
theorem value_far (v : Value) (l : List (List Int)) (i n0 : Int) (w : World) (h : RL w v l) (hi : 0 ≤ i) (hi2 : (l.length : Int) ≤ i) : Calls Tryd.prog 18 #[v, .int .i64 i, .int .i64 n0] w fun e w' => e = .returned (.int .i64 n0) ∧ Below w.heap.size w w' := by
  obtain ⟨A, c, rfl⟩ := h.form
  obtain ⟨n, hn⟩ : ∃ n, n = l.length := ⟨_, rfl⟩
  rw [← hn] at hi2 ⊢
  have g1 : decide (i < 0) = false := decide_eq_false (by omega)
  have g2 : decide ((n : Int) ≤ i) = true := decide_eq_true (by omega)
  clear h hn
  go_enter Tryd.func18, Tryd.ntmps18
  go_wp2
  go_ret
  exact ⟨rfl, Below.refl _ _⟩
set_option maxRecDepth 100000 in
set_option maxHeartbeats 1000000 in
theorem value_nil (v : Value) (l : List (List Int)) (k : Nat) (n0 : Int) (w : World) (h : RL w v l) (hp : l[k]? = some []) : Calls Tryd.prog 18 #[v, .int .i64 (k : Int), .int .i64 n0] w fun e w' => e = .returned (.int .i64 n0) ∧ Below w.heap.size w w' := by
  have hk : k < l.length := (List.getElem?_eq_some_iff.1 hp).1
  obtain ⟨A, c, rfl⟩ := h.form
  obtain ⟨ad, B, cc, rfl, -, hc, hcc, hB⟩ := h.item hp
  obtain ⟨n, hn⟩ : ∃ n, n = l.length := ⟨_, rfl⟩
  rw [← hn] at hk ⊢
  have g1 : decide ((k : Int) < 0) = false := decide_eq_false (by omega)
  have g2 : decide ((n : Int) ≤ (k : Int)) = false := decide_eq_false (by omega)
  have i1 : (0 : Int) ≤ (k : Int) := by omega
  have i2 : (k : Int) < (n : Int) := by omega
  clear h hn hp
  rw [show ([] : List Int).length = 0 from rfl] at hc
  clear hB
  go_enter Tryd.func18, Tryd.ntmps18
  go_wp2
  go_ret
  exact ⟨rfl, Below.refl _ _⟩
set_option maxRecDepth 100000 in
set_option maxHeartbeats 1000000 in
theorem value_low (v : Value) (l : List (List Int)) (k : Nat) (z n0 : Int) (q : List Int) (w : World) (h : RL w v l) (hp : l[k]? = some (z :: q)) (hz : z < 0) : Calls Tryd.prog 18 #[v, .int .i64 (k : Int), .int .i64 n0] w fun e w' => e = .returned (.int .i64 n0) ∧ Below w.heap.size w w' := by
  have hk : k < l.length := (List.getElem?_eq_some_iff.1 hp).1
  obtain ⟨A, c, rfl⟩ := h.form
  obtain ⟨ad, B, cc, rfl, -, hc, hcc, hB⟩ := h.item hp
  obtain ⟨n, hn⟩ : ∃ n, n = l.length := ⟨_, rfl⟩
  rw [← hn] at hk ⊢
  have g1 : decide ((k : Int) < 0) = false := decide_eq_false (by omega)
  have g2 : decide ((n : Int) ≤ (k : Int)) = false := decide_eq_false (by omega)
  have i1 : (0 : Int) ≤ (k : Int) := by omega
  have i2 : (k : Int) < (n : Int) := by omega
  clear h hn hp
  obtain ⟨bd, rfl, -, hz0⟩ := hB 0 (.int .i64 z) rfl
  rw [show bd.add 0 = bd from by unfold Addr.add; simp] at hz0
  obtain ⟨m, hm⟩ : ∃ m, m = q.length + 1 := ⟨_, rfl⟩
  rw [show (z :: q).length = m from hm.symm] at hc hcc
  have i3 : (0 : Int) < (m : Int) := by omega
  have g3 : ((m : Int) == 0) = false := by simp; omega
  have g4 : decide (z < 0) = true := decide_eq_true hz
  clear hB hm
  go_enter Tryd.func18, Tryd.ntmps18
  go_wp2
  go_ret
  exact ⟨rfl, Below.refl _ _⟩
set_option maxRecDepth 100000 in
set_option maxHeartbeats 1000000 in
theorem value_get (v : Value) (l : List (List Int)) (k : Nat) (z n0 : Int) (q : List Int) (w : World) (h : RL w v l) (hp : l[k]? = some (z :: q)) (hz : 0 ≤ z) : Calls Tryd.prog 18 #[v, .int .i64 (k : Int), .int .i64 n0] w fun e w' => e = .returned (.int .i64 z) ∧ Below w.heap.size w w' := by
  have hk : k < l.length := (List.getElem?_eq_some_iff.1 hp).1
  obtain ⟨A, c, rfl⟩ := h.form
  obtain ⟨ad, B, cc, rfl, -, hc, hcc, hB⟩ := h.item hp
  obtain ⟨n, hn⟩ : ∃ n, n = l.length := ⟨_, rfl⟩
  rw [← hn] at hk ⊢
  have g1 : decide ((k : Int) < 0) = false := decide_eq_false (by omega)
  have g2 : decide ((n : Int) ≤ (k : Int)) = false := decide_eq_false (by omega)
  have i1 : (0 : Int) ≤ (k : Int) := by omega
  have i2 : (k : Int) < (n : Int) := by omega
  clear h hn hp
  obtain ⟨bd, rfl, -, hz0⟩ := hB 0 (.int .i64 z) rfl
  rw [show bd.add 0 = bd from by unfold Addr.add; simp] at hz0
  obtain ⟨m, hm⟩ : ∃ m, m = q.length + 1 := ⟨_, rfl⟩
  rw [show (z :: q).length = m from hm.symm] at hc hcc
  have i3 : (0 : Int) < (m : Int) := by omega
  have g3 : ((m : Int) == 0) = false := by simp; omega
  have g4 : decide (z < 0) = false := decide_eq_false (by omega)
  clear hB hm
  go_enter Tryd.func18, Tryd.ntmps18
  go_wp2
  go_ret
  exact ⟨rfl, Below.refl _ _⟩
theorem value_any (v : Value) (l : List (List Int)) (i n0 : Int) (w : World) (h : RL w v l) : Calls Tryd.prog 18 #[v, .int .i64 i, .int .i64 n0] w fun e w' => e = .returned (.int .i64 (valV l i n0)) ∧ Below w.heap.size w w' := by
  by_cases h1 : i < 0
  · rw [valV, if_pos (.inl h1)]; exact value_neg v l i n0 w h h1
  · by_cases h2 : (l.length : Int) ≤ i
    · rw [valV, if_pos (.inr h2)]; exact value_far v l i n0 w h (by omega) h2
    · obtain ⟨k, rfl⟩ : ∃ k : Nat, i = k := ⟨i.toNat, by omega⟩
      obtain ⟨p, hp⟩ := get_some l k (by omega)
      have e : valV l (k : Int) n0 = match some p with | some (z :: _) => if z < 0 then n0 else z | _ => n0 := by
        rw [valV, if_neg (by omega), Int.toNat_natCast, hp]; cases p <;> rfl
      cases p with
      | nil => rw [e]; exact value_nil v l k n0 w h hp
      | cons z q =>
        by_cases h3 : z < 0
        · rw [show valV l (k : Int) n0 = n0 by rw [e]; simp [h3]]; exact value_low v l k z n0 q w h hp h3
        · rw [show valV l (k : Int) n0 = z by rw [e]; simp [h3]]; exact value_get v l k z n0 q w h hp (by omega)
set_option maxRecDepth 100000 in
set_option maxHeartbeats 1000000 in
theorem rvalue_neg (v : Value) (l : List (List Int)) (i n0 : Int) (w : World) (h : RL w v l) (hi : i < 0) : Calls Tryd.prog 19 #[v, .int .i64 i, .int .i64 n0] w fun e w' => e = .returned (.int .i64 n0) ∧ Below w.heap.size w w' := by
  obtain ⟨A, c, rfl⟩ := h.form
  obtain ⟨n, hn⟩ : ∃ n, n = l.length := ⟨_, rfl⟩
  rw [← hn]
  have g1 : decide (i < 0) = true := decide_eq_true (by omega)
  clear h hn
  go_enter Tryd.func19, Tryd.ntmps19
  go_wp2
  go_ret
  exact ⟨rfl, Below.refl _ _⟩
set_option maxRecDepth 100000 in
set_option maxHeartbeats 1000000 in
theorem rvalue_far (v : Value) (l : List (List Int)) (i n0 : Int) (w : World) (h : RL w v l) (hi : 0 ≤ i) (hi2 : (l.length : Int) ≤ i) : Calls Tryd.prog 19 #[v, .int .i64 i, .int .i64 n0] w fun e w' => e = .returned (.int .i64 n0) ∧ Below w.heap.size w w' := by
  obtain ⟨A, c, rfl⟩ := h.form
  obtain ⟨n, hn⟩ : ∃ n, n = l.length := ⟨_, rfl⟩
  rw [← hn] at hi2 ⊢
  have g1 : decide (i < 0) = false := decide_eq_false (by omega)
  have g2 : decide ((n : Int) ≤ i) = true := decide_eq_true (by omega)
  clear h hn
  go_enter Tryd.func19, Tryd.ntmps19
  go_wp2
  go_ret
  exact ⟨rfl, Below.refl _ _⟩
set_option maxRecDepth 100000 in
set_option maxHeartbeats 1000000 in
theorem rvalue_nil (v : Value) (l : List (List Int)) (k : Nat) (n0 : Int) (w : World) (h : RL w v l) (hp : l[k]? = some []) : Calls Tryd.prog 19 #[v, .int .i64 (k : Int), .int .i64 n0] w fun e w' => e = .returned (.int .i64 n0) ∧ Below w.heap.size w w' := by
  have hk : k < l.length := (List.getElem?_eq_some_iff.1 hp).1
  obtain ⟨A, c, rfl⟩ := h.form
  obtain ⟨ad, B, cc, rfl, -, hc, hcc, hB⟩ := h.item hp
  obtain ⟨n, hn⟩ : ∃ n, n = l.length := ⟨_, rfl⟩
  rw [← hn] at hk ⊢
  have g1 : decide ((k : Int) < 0) = false := decide_eq_false (by omega)
  have g2 : decide ((n : Int) ≤ (k : Int)) = false := decide_eq_false (by omega)
  have i1 : (0 : Int) ≤ (k : Int) := by omega
  have i2 : (k : Int) < (n : Int) := by omega
  clear h hn hp
  rw [show ([] : List Int).length = 0 from rfl] at hc
  clear hB
  go_enter Tryd.func19, Tryd.ntmps19
  go_wp2
  go_ret
  exact ⟨rfl, Below.refl _ _⟩
set_option maxRecDepth 100000 in
set_option maxHeartbeats 1000000 in
theorem rvalue_low (v : Value) (l : List (List Int)) (k : Nat) (z n0 : Int) (q : List Int) (w : World) (h : RL w v l) (hp : l[k]? = some (z :: q)) (hz : z < 0) : Calls Tryd.prog 19 #[v, .int .i64 (k : Int), .int .i64 n0] w fun e w' => e = .returned (.int .i64 n0) ∧ Below w.heap.size w w' := by
  have hk : k < l.length := (List.getElem?_eq_some_iff.1 hp).1
  obtain ⟨A, c, rfl⟩ := h.form
  obtain ⟨ad, B, cc, rfl, -, hc, hcc, hB⟩ := h.item hp
  obtain ⟨n, hn⟩ : ∃ n, n = l.length := ⟨_, rfl⟩
  rw [← hn] at hk ⊢
  have g1 : decide ((k : Int) < 0) = false := decide_eq_false (by omega)
  have g2 : decide ((n : Int) ≤ (k : Int)) = false := decide_eq_false (by omega)
  have i1 : (0 : Int) ≤ (k : Int) := by omega
  have i2 : (k : Int) < (n : Int) := by omega
  clear h hn hp
  obtain ⟨bd, rfl, -, hz0⟩ := hB 0 (.int .i64 z) rfl
  rw [show bd.add 0 = bd from by unfold Addr.add; simp] at hz0
  obtain ⟨m, hm⟩ : ∃ m, m = q.length + 1 := ⟨_, rfl⟩
  rw [show (z :: q).length = m from hm.symm] at hc hcc
  have i3 : (0 : Int) < (m : Int) := by omega
  have g3 : ((m : Int) == 0) = false := by simp; omega
  have g4 : decide (z < 0) = true := decide_eq_true hz
  clear hB hm
  go_enter Tryd.func19, Tryd.ntmps19
  go_wp2
  go_ret
  exact ⟨rfl, Below.refl _ _⟩
set_option maxRecDepth 100000 in
set_option maxHeartbeats 1000000 in
theorem rvalue_get (v : Value) (l : List (List Int)) (k : Nat) (z n0 : Int) (q : List Int) (w : World) (h : RL w v l) (hp : l[k]? = some (z :: q)) (hz : 0 ≤ z) : Calls Tryd.prog 19 #[v, .int .i64 (k : Int), .int .i64 n0] w fun e w' => e = .returned (.int .i64 z) ∧ Below w.heap.size w w' := by
  have hk : k < l.length := (List.getElem?_eq_some_iff.1 hp).1
  obtain ⟨A, c, rfl⟩ := h.form
  obtain ⟨ad, B, cc, rfl, -, hc, hcc, hB⟩ := h.item hp
  obtain ⟨n, hn⟩ : ∃ n, n = l.length := ⟨_, rfl⟩
  rw [← hn] at hk ⊢
  have g1 : decide ((k : Int) < 0) = false := decide_eq_false (by omega)
  have g2 : decide ((n : Int) ≤ (k : Int)) = false := decide_eq_false (by omega)
  have i1 : (0 : Int) ≤ (k : Int) := by omega
  have i2 : (k : Int) < (n : Int) := by omega
  clear h hn hp
  obtain ⟨bd, rfl, -, hz0⟩ := hB 0 (.int .i64 z) rfl
  rw [show bd.add 0 = bd from by unfold Addr.add; simp] at hz0
  obtain ⟨m, hm⟩ : ∃ m, m = q.length + 1 := ⟨_, rfl⟩
  rw [show (z :: q).length = m from hm.symm] at hc hcc
  have i3 : (0 : Int) < (m : Int) := by omega
  have g3 : ((m : Int) == 0) = false := by simp; omega
  have g4 : decide (z < 0) = false := decide_eq_false (by omega)
  clear hB hm
  go_enter Tryd.func19, Tryd.ntmps19
  go_wp2
  go_ret
  exact ⟨rfl, Below.refl _ _⟩
theorem rvalue_any (v : Value) (l : List (List Int)) (i n0 : Int) (w : World) (h : RL w v l) : Calls Tryd.prog 19 #[v, .int .i64 i, .int .i64 n0] w fun e w' => e = .returned (.int .i64 (valV l i n0)) ∧ Below w.heap.size w w' := by
  by_cases h1 : i < 0
  · rw [valV, if_pos (.inl h1)]; exact rvalue_neg v l i n0 w h h1
  · by_cases h2 : (l.length : Int) ≤ i
    · rw [valV, if_pos (.inr h2)]; exact rvalue_far v l i n0 w h (by omega) h2
    · obtain ⟨k, rfl⟩ : ∃ k : Nat, i = k := ⟨i.toNat, by omega⟩
      obtain ⟨p, hp⟩ := get_some l k (by omega)
      have e : valV l (k : Int) n0 = match some p with | some (z :: _) => if z < 0 then n0 else z | _ => n0 := by
        rw [valV, if_neg (by omega), Int.toNat_natCast, hp]; cases p <;> rfl
      cases p with
      | nil => rw [e]; exact rvalue_nil v l k n0 w h hp
      | cons z q =>
        by_cases h3 : z < 0
        · rw [show valV l (k : Int) n0 = n0 by rw [e]; simp [h3]]; exact rvalue_low v l k z n0 q w h hp h3
        · rw [show valV l (k : Int) n0 = z by rw [e]; simp [h3]]; exact rvalue_get v l k z n0 q w h hp (by omega)
end Go.Proofs.YtelglcchcpnfbaaDoor.Par
