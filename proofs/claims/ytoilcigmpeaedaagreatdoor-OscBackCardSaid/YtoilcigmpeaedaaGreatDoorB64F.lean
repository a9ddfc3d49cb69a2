/-
  Contract of Decode.
-/
import Derived.Test.YtoilcigmpeaedaaGreatDoorB64E
namespace Go.Proofs.YtoilcigmpeaedaaGreatDoor.B64
open Go.RowKit Utf

def stD (p : MS) (v : Nat) : MS :=
  if p.k = 0 then ⟨p.b * 64 + v, 6, p.o⟩
  else if p.k = 6 then ⟨(p.b * 64 + v) % 16, 4, p.o ++ [byt ((p.b * 64 + v) / 16)]⟩
  else if p.k = 4 then ⟨(p.b * 64 + v) % 4, 2, p.o ++ [byt ((p.b * 64 + v) / 4)]⟩
  else ⟨0, 0, p.o ++ [byt (p.b * 64 + v)]⟩
def OkD (p : MS) : Prop := (p.k = 0 ∧ p.b < 1) ∨ (p.k = 6 ∧ p.b < 64) ∨ (p.k = 4 ∧ p.b < 16) ∨ (p.k = 2 ∧ p.b < 4)
theorem stD_ok (p : MS) (v : Nat) (hv : v < 64) (h : OkD p) : OkD (stD p v) := by
  unfold stD OkD
  rcases h with ⟨h, hb⟩ | ⟨h, hb⟩ | ⟨h, hb⟩ | ⟨h, hb⟩
  · rw [if_pos h]; right; left; exact ⟨rfl, by show p.b * 64 + v < 64; omega⟩
  · rw [if_neg (by omega), if_pos h]; right; right; left; exact ⟨rfl, by show _ % 16 < 16; omega⟩
  · rw [if_neg (by omega), if_neg (by omega), if_pos h]; right; right; right; exact ⟨rfl, by show _ % 4 < 4; omega⟩
  · rw [if_neg (by omega), if_neg (by omega), if_neg (by omega)]; left; exact ⟨rfl, by show 0 < 1; omega⟩
theorem stD_len (p : MS) (v : Nat) : (stD p v).o.length ≤ p.o.length + 1 := by
  unfold stD
  split
  · simp
  · split
    · simp
    · split <;> simp
def runD (vs : List Nat) : MS := vs.foldl stD ⟨0, 0, []⟩
theorem runD_snoc (vs : List Nat) (v : Nat) : runD (vs ++ [v]) = stD (runD vs) v := by
  unfold runD
  rw [List.foldl_append]
  rfl
theorem runD_ok (vs : List Nat) (h : ∀ v ∈ vs, v < 64) : OkD (runD vs) := by
  unfold runD
  generalize hp : (⟨0, 0, []⟩ : MS) = p
  have hk : OkD p := by subst hp; left; exact ⟨rfl, by show 0 < 1; omega⟩
  clear hp
  induction vs generalizing p with
  | nil => exact hk
  | cons x r ih => exact ih (fun v hv => h v (by simp [hv])) _ (stD_ok p x (h x (by simp)) hk)
theorem runD_len (vs : List Nat) : (runD vs).o.length ≤ vs.length := by
  unfold runD
  have : ∀ (l : List Nat) (p : MS), (l.foldl stD p).o.length ≤ p.o.length + l.length := by
    intro l
    induction l with
    | nil => intro p; simp
    | cons x r ih =>
      intro p
      have h1 := ih (stD p x)
      have h2 := stD_len p x
      rw [List.foldl_cons, List.length_cons]
      omega
  have := this vs ⟨0, 0, []⟩
  simpa using this
theorem run_dec (vs : List Nat) (hv : ∀ v ∈ vs, v < 64) (p : MS) (h : OkD p) : (vs.foldl stD p).o = p.o ++ decV p.b p.k vs ∧ ((vs.foldl stD p).b, (vs.foldl stD p).k) = decE p.b p.k vs := by
  induction vs generalizing p with
  | nil => exact ⟨by rw [decV, List.append_nil]; rfl, rfl⟩
  | cons v r ih =>
    have hv1 := hv v (by simp)
    obtain ⟨h1, h2⟩ := ih (fun u hu => hv u (by simp [hu])) _ (stD_ok p v hv1 h)
    rw [List.foldl_cons, h1, h2]
    rcases h with ⟨hk, hb⟩ | ⟨hk, hb⟩ | ⟨hk, hb⟩ | ⟨hk, hb⟩
    · have h0 : p.b = 0 := by omega
      have e : stD p v = ⟨v, 6, p.o⟩ := by unfold stD; rw [if_pos hk, h0]; simp
      rw [e, hk]
      simp [decV, decE]
    · have e1 : (p.b * 64 + v) % 16 = v % 16 := by omega
      have e2 : (p.b * 64 + v) / 16 = p.b * 4 + v / 16 := by omega
      have e : stD p v = ⟨v % 16, 4, p.o ++ [byt (p.b * 4 + v / 16)]⟩ := by unfold stD; rw [if_neg (by omega), if_pos hk, e1, e2]
      rw [e, hk]
      simp [decV, decE]
    · have e1 : (p.b * 64 + v) % 4 = v % 4 := by omega
      have e2 : (p.b * 64 + v) / 4 = p.b * 16 + v / 4 := by omega
      have e : stD p v = ⟨v % 4, 2, p.o ++ [byt (p.b * 16 + v / 4)]⟩ := by unfold stD; rw [if_neg (by omega), if_neg (by omega), if_pos hk, e1, e2]
      rw [e, hk]
      simp [decV, decE]
    · have e : stD p v = ⟨0, 0, p.o ++ [byt (p.b * 64 + v)]⟩ := by unfold stD; rw [if_neg (by omega), if_neg (by omega), if_neg (by omega)]
      rw [e, hk]
      simp [decV, decE]
theorem dec_run (vs : List Nat) (hv : ∀ v ∈ vs, v < 64) : (runD vs).o = decV 0 0 vs ∧ okE (decE 0 0 vs) = (decide ((runD vs).k < 6) && decide ((runD vs).b = 0)) := by
  obtain ⟨h1, h2⟩ := run_dec vs hv ⟨0, 0, []⟩ (.inl ⟨rfl, by show 0 < 1; omega⟩)
  refine ⟨by rw [show runD vs = vs.foldl stD ⟨0, 0, []⟩ from rfl, h1]; simp, ?_⟩
  rw [← h2]
  rfl
theorem vals_snoc (l : List UInt8) (c : UInt8) (vs : List Nat) (v : Nat) (h : valsL l = some vs) (hc : vl c = some v) : valsL (l ++ [c]) = some (vs ++ [v]) := by
  induction l generalizing vs with
  | nil => cases h; simp [valsL, hc]
  | cons x r ih =>
    rw [valsL] at h
    split at h
    · rename_i u us hu hus
      cases h
      rw [List.cons_append, valsL, hu, ih us hus]
      rfl
    · cases h
theorem vals_stop (l : List UInt8) (c : UInt8) (r : List UInt8) (hc : vl c = none) : valsL (l ++ c :: r) = none := by
  induction l with
  | nil => simp [valsL, hc]
  | cons x l ih =>
    rw [List.cons_append, valsL, ih]
    cases vl x <;> rfl
theorem vals_len (l : List UInt8) (vs : List Nat) (h : valsL l = some vs) : vs.length = l.length := by
  induction l generalizing vs with
  | nil => cases h; rfl
  | cons x r ih =>
    rw [valsL] at h
    split at h
    · rename_i u us hu hus
      cases h
      rw [List.length_cons, List.length_cons, ih us hus]
    · cases h
theorem trim_len (l : List UInt8) : (trimL l).length ≤ l.length := by
  unfold trimL Lib.trimRightB
  rw [List.length_reverse]
  have := (List.dropWhile_sublist (· == (61 : UInt8)) (l := l.reverse)).length_le
  rw [List.length_reverse] at this
  exact this

/-- what Decode answers -/
def decV' (l : List UInt8) : Value := match decL l with
  | some x => .tuple #[.string ⟨x.toArray⟩, .int .i64 0]
  | none => .tuple #[.string ⟨#[]⟩, .int .i64 6]
theorem decV_none (l : List UInt8) (h : decL l = none) : decV' l = .tuple #[.string ⟨#[]⟩, .int .i64 6] := by rw [decV', h]
theorem decV_some (l x : List UInt8) (h : decL l = some x) : decV' l = .tuple #[.string ⟨x.toArray⟩, .int .i64 0] := by rw [decV', h]

def HpD (X : Nat → Prop) (base n T : Nat) (p : MS) (w : World) : Prop := Hp X base n T 6 8 (.func (.func 90) #[] #[.pointer (some ⟨T, 0, none⟩)]) p.b p.k p.o w
theorem putD_any (X : Nat → Prop) (base n T : Nat) (p : MS) (v : Nat) (hv : v < 64) (hp : OkD p) (w : World) (h : HpD X base n T p w) (hl : p.o.length ≤ 800000) :
    Calls Tryz.prog 82 #[.int .i64 (v : Int), .pointer (some ⟨n + 3, 0, none⟩), .pointer (some ⟨n, 0, none⟩), .pointer (some ⟨n + 4, 0, none⟩), .pointer (some ⟨n + 1, 0, none⟩), .pointer (some ⟨n + 2, 0, none⟩)] w fun e w' => e = .returned (.tuple #[]) ∧ HpD X base n T (stD p v) w' ∧ Stay X base w w' := by
  obtain ⟨b, k, o⟩ := p
  rcases hp with ⟨hk, hb⟩ | ⟨hk, hb⟩ | ⟨hk, hb⟩ | ⟨hk, hb⟩
  · obtain rfl : k = 0 := hk
    exact putD_0 X base n T b v o hb hv w h hl
  · obtain rfl : k = 6 := hk
    exact putD_6 X base n T b v o hb hv w h hl
  · obtain rfl : k = 4 := hk
    exact putD_4 X base n T b v o hb hv w h hl
  · obtain rfl : k = 2 := hk
    exact putD_2 X base n T b v o hb hv w h hl

set_option maxRecDepth 100000 in
set_option maxHeartbeats 1000000 in
theorem decode_long (s : ByteArray) (w : World) (h : 8192 < s.size) : Calls Tryz.prog 69 #[.string s] w fun e w' => e = .returned (.tuple #[.string ⟨#[]⟩, .int .i64 3]) ∧ w' = w := by
  have h1 : (8192 : Int) < s.size := by omega
  go_enter Tryz.func69, Tryz.ntmps69
  go_wp2
  go_ret2
  exact ⟨rfl, rfl⟩

theorem ba_ne {a b : ByteArray} (h : a.data.toList ≠ b.data.toList) : (a.toList == b.toList) = false := by
  have : a.toList ≠ b.toList := fun e => h (by rw [ByteArray.toList_eq, ByteArray.toList_eq] at e; rw [e])
  simp [this]
theorem ba_eq {a b : ByteArray} (h : a.data.toList = b.data.toList) : a = b := ByteArray.ext (Array.ext' h)
theorem app_ba (a b : List UInt8) : (⟨a.toArray⟩ : ByteArray) ++ (⟨b.toArray⟩ : ByteArray) = ⟨(a ++ b).toArray⟩ := by
  refine ba_eq ?_
  simp

set_option maxRecDepth 100000 in
set_option maxHeartbeats 4000000 in
theorem decode_bad (s : ByteArray) (w : World) (h : s.size ≤ 8192) (hne : s.data.toList ≠ trimL s.data.toList) (hne2 : s.data.toList ≠ trimL s.data.toList ++ padL (trimL s.data.toList).length) : Calls Tryz.prog 69 #[.string s] w fun e w' => e = .returned (decV' s.data.toList) ∧ Below w.heap.size w w' := by
  rw [decV_none _ (by unfold decL; simp only; rw [if_pos ⟨hne, hne2⟩])]
  have h1 : (s.size : Int) ≤ 8192 := by omega
  have hlt := trim_len s.data.toList
  simp only [Array.length_toList] at hlt
  obtain ⟨P, hP⟩ : ∃ P : ByteArray, P = ⟨(trimL s.data.toList).toArray⟩ := ⟨_, rfl⟩
  obtain ⟨R, hR⟩ : ∃ R : ByteArray, R = ⟨(padL (trimL s.data.toList).length).toArray⟩ := ⟨_, rfl⟩
  have hPz : P.size = (trimL s.data.toList).length := by rw [hP, Lib.size_mk]
  have hPz2 : P.size ≤ 8192 := by rw [hPz]; exact Nat.le_trans hlt h
  have hRz : R.size ≤ 4 := by rw [hR]; exact padL_size _
  have HT := Lib.hid (fun W => Tryz.strings_TrimRight_one s 61 (by decide) W (by omega))
  have HP := Lib.hid (show (⟨(Lib.trimRightB s.data.toList 61).toArray⟩ : ByteArray) = P from hP.symm)
  have HR := Lib.hid (fun W => padding_any P.size (by omega) W)
  have HR2 := Lib.hid (show (⟨(padL P.size).toArray⟩ : ByteArray) = R by rw [hR, hPz])
  have q1 : (s.toList == P.toList) = false := ba_ne (by rw [hP]; simpa using hne)
  have q2 : (s.toList == (P ++ R).toList) = false := ba_ne (by rw [hP, hR, app_ba]; simpa using hne2)
  have hl9 : ¬ 9223372036854775807 < P.size + R.size := by omega
  clear hne hne2 hP hR hPz hlt
  go_enter Tryz.func69, Tryz.ntmps69
  go_wp2_with (first
    | (go_at_call 89; refine (HT.out _).mono ?_; rintro e w1 ⟨rfl, rfl⟩; rw [HP.out])
    | (go_at_call 57; refine (HR.out _).mono ?_; rintro e w2 ⟨rfl, hb2⟩; rw [HR2.out]))
  go_ret2
  exact ⟨rfl, hb2⟩
theorem decL_pad (l : List UInt8) (h : l = trimL l ∨ l = trimL l ++ padL (trimL l).length) : (valsL (trimL l) = none → decL l = none) ∧ (∀ vs, valsL (trimL l) = some vs → okE (decE 0 0 vs) = false → decL l = none) ∧ (∀ vs, valsL (trimL l) = some vs → okE (decE 0 0 vs) = true → decL l = some (decV 0 0 vs)) := by
  have hn : ¬ (l ≠ trimL l ∧ l ≠ trimL l ++ padL (trimL l).length) := fun e => h.elim e.1 e.2
  unfold decL
  simp only
  rw [if_neg hn]
  refine ⟨fun e => by rw [e], fun vs e1 e2 => ?_, fun vs e1 e2 => ?_⟩
  · rw [e1]; simp [e2]
  · rw [e1]; simp [e2]
theorem startD_any (w : World) (fr tt : Int) (f : Nat) :
    Calls Tryz.prog 55 #[.int .i64 fr, .int .i64 tt, .func (.func f) #[] #[.pointer (some ⟨w.heap.size, 0, none⟩)]] (w.alloc (.cells #[.slice none 0 0] 38)) fun e w' =>
    e = .returned (.tuple #[.func (.func 82) #[] #[.pointer (some ⟨w.heap.size + 1 + 3, 0, none⟩), .pointer (some ⟨w.heap.size + 1, 0, none⟩), .pointer (some ⟨w.heap.size + 1 + 4, 0, none⟩), .pointer (some ⟨w.heap.size + 1 + 1, 0, none⟩), .pointer (some ⟨w.heap.size + 1 + 2, 0, none⟩)], .func (.func 83) #[] #[.pointer (some ⟨w.heap.size + 1 + 3, 0, none⟩), .pointer (some ⟨w.heap.size + 1 + 4, 0, none⟩)]]) ∧
    Hp (fun _ => False) w.heap.size (w.heap.size + 1) w.heap.size fr tt (.func (.func f) #[] #[.pointer (some ⟨w.heap.size, 0, none⟩)]) 0 0 [] w' ∧ Below w.heap.size w w' := by
  obtain ⟨W1, hW1⟩ : ∃ W1, W1 = w.alloc (.cells #[.slice none 0 0] 38) := ⟨_, rfl⟩
  have s2 : W1.heap.size = w.heap.size + 1 := by rw [hW1, World.size_alloc]
  have hbT : Box W1 w.heap.size [.slice none 0 0] := by rw [hW1]; exact Box.new w _ _
  have k2 : Below w.heap.size w W1 := by rw [hW1]; exact below_box _ _
  rw [← hW1]
  refine (regroup_any fr tt f ⟨w.heap.size, 0, none⟩ W1).mono ?_
  rintro e w2 ⟨rfl, x0, x1, x2, x3, x4, hb⟩
  rw [s2] at x0 x1 x2 x3 x4 ⊢
  exact ⟨rfl, ⟨by omega, by omega, by omega, fun j hj => hj.elim, x0, x1, x2, x3, x4, _, hbT.keep hb, World.ownsRow_nil _ _ _ _, fun g hg => by simp [Value.ownBlock] at hg⟩, up k2 hb⟩
theorem Hp.mapped {base n T : Nat} {fr tt : Int} {use : Value} {b k : Int} {xs : List UInt8} {w : World} (h : Hp (fun _ => False) base n T fr tt use b k xs w) :
    Hp (fun j => j = w.heap.size) base n T fr tt use b k xs (w.alloc (mapE 64)) ∧ (w.alloc (mapE 64)).heap[w.heap.size]? = some (mapE 64) ∧ Below base w (w.alloc (mapE 64)) := by
  have h4 := h.b4.1
  obtain ⟨v, hT, hown, hof⟩ := h.row
  have hk := below_box w (mapE 64)
  have hTl := hT.1
  refine ⟨⟨h.hT, h.hn, h.hTn, fun j hj => ?_, h.b0.keep hk, h.b1.keep hk, h.b2.keep hk, h.b3.keep hk, h.b4.keep hk, v, hT.keep hk, own_below hown hk, fun g hg => ⟨(hof g hg).1, (hof g hg).2.1, ?_⟩⟩, heap_alloc_new w _, hk.mono (by have := h.hn; omega)⟩
  · subst hj
    exact ⟨by simp, by omega, by omega⟩
  · have := (hown.lt g hg).2
    show ¬ g = w.heap.size
    omega

set_option maxRecDepth 100000 in
set_option maxHeartbeats 4000000 in
theorem decode_pad (s : ByteArray) (w : World) (h : s.size ≤ 8192) (hne : s.data.toList ≠ trimL s.data.toList) (hne2 : s.data.toList = trimL s.data.toList ++ padL (trimL s.data.toList).length) : Calls Tryz.prog 69 #[.string s] w fun e w' => e = .returned (decV' s.data.toList) ∧ Below w.heap.size w w' := by
  obtain ⟨hd1', hd2', hd3'⟩ := decL_pad s.data.toList (.inr hne2)
  have h1 : (s.size : Int) ≤ 8192 := by omega
  have hlt := trim_len s.data.toList
  simp only [Array.length_toList] at hlt
  obtain ⟨P, hP⟩ : ∃ P : ByteArray, P = ⟨(trimL s.data.toList).toArray⟩ := ⟨_, rfl⟩
  have hPl : P.data.toList = trimL s.data.toList := by rw [hP]
  have hPz : P.size = (trimL s.data.toList).length := by rw [hP, Lib.size_mk]
  have hPz2 : P.size ≤ 8192 := by rw [hPz]; exact Nat.le_trans hlt h
  have HT := Lib.hid (fun W => Tryz.strings_TrimRight_one s 61 (by decide) W (by omega))
  have HP := Lib.hid (show (⟨(Lib.trimRightB s.data.toList 61).toArray⟩ : ByteArray) = P from hP.symm)
  obtain ⟨R, hR⟩ : ∃ R : ByteArray, R = ⟨(padL (trimL s.data.toList).length).toArray⟩ := ⟨_, rfl⟩
  have hRz : R.size ≤ 4 := by rw [hR]; exact padL_size _
  have HR := Lib.hid (fun W => padding_any P.size (by omega) W)
  have HR2 := Lib.hid (show (⟨(padL P.size).toArray⟩ : ByteArray) = R by rw [hR, hPz])
  have q1 : (s.toList == P.toList) = false := ba_ne (by rw [hPl]; exact hne)
  have q2 : (s.toList == (P ++ R).toList) = true := by
    have e : s = P ++ R := ba_eq (by rw [hP, hR, app_ba]; exact hne2)
    rw [← e]; simp
  have hl9 : ¬ 9223372036854775807 < P.size + R.size := by omega
  clear hR hne2
  have hd1 : valsL P.data.toList = none → decV' s.data.toList = .tuple #[.string ⟨#[]⟩, .int .i64 6] := fun e => decV_none _ (hd1' (hPl ▸ e))
  have hd2 : ∀ vs, valsL P.data.toList = some vs → okE (decE 0 0 vs) = false → decV' s.data.toList = .tuple #[.string ⟨#[]⟩, .int .i64 6] := fun vs e1 e2 => decV_none _ (hd2' vs (hPl ▸ e1) e2)
  have hd3 : ∀ vs, valsL P.data.toList = some vs → okE (decE 0 0 vs) = true → decV' s.data.toList = .tuple #[.string ⟨(decV 0 0 vs).toArray⟩, .int .i64 0] := fun vs e1 e2 => decV_some _ _ (hd3' vs (hPl ▸ e1) e2)
  have HD := Lib.hid (And.intro hd1 (And.intro hd2 hd3))
  clear hd1 hd2 hd3 hd1' hd2' hd3' hP hPl hPz hlt hne
  generalize decV' s.data.toList = D at HD ⊢
  go_enter Tryz.func69, Tryz.ntmps69
  go_wp2_with (first
    | (go_at_call 89; refine (HT.out _).mono ?_; rintro e w1 ⟨rfl, rfl⟩; rw [HP.out])
    | (go_at_call 57; refine (HR.out _).mono ?_; rintro e w2 ⟨rfl, hb2⟩; rw [HR2.out])
    | (go_at_call 55; refine (startD_any w2 6 8 90).mono ?_; rintro e w3 ⟨rfl, hp3, hb3⟩)
    | (go_at_call 91; refine (values_any w3).mono ?_; rintro e w4 ⟨rfl, rfl⟩))
  obtain ⟨p4, m4, b4⟩ := hp3.mapped
  generalize w3.alloc (mapE 64) = w4 at p4 m4 b4 ⊢
  have HB := Lib.hid (show Below w1.heap.size w1 w4 from up hb2 (hb3.trans (b4)))
  have HP4 := Lib.hid (show HpD (fun j => j = w3.heap.size) w2.heap.size (w2.heap.size + 1) w2.heap.size ⟨0, 0, []⟩ w4 from p4)
  have HM4 := Lib.hid m4
  have hwb : w1.heap.size ≤ w2.heap.size := hb2.size
  clear p4 m4 b4 hp3 hb3
  generalize w3.heap.size = m at HP4 HM4 ⊢
  have hPs : P.data.toList.length = P.size := by simp
  go_loopw [39] (fun i wr => ∃ k : Nat, k ≤ P.size ∧ i = .int .i64 k ∧ Hid (∃ vs, valsL (P.data.toList.take k) = some vs ∧ HpD (fun j => j = m) w2.heap.size (w2.heap.size + 1) w2.heap.size (runD vs) wr ∧ wr.heap[m]? = some (mapE 64) ∧ Below w1.heap.size w1 wr)) (fun i _ => P.size - (intOf i).toNat)
  case atStart => exact ⟨0, by omega, rfl, [], rfl, HP4.out, HM4.out, HB.out⟩
  case round =>
    clear HP4 HM4 HB
    obtain ⟨k, hk, rfl, hid⟩ := hrel
    obtain ⟨vs, hvs, hp, hm, hb⟩ := hid.out
    have hvl : ∀ v ∈ vs, v < 64 := (map_vals _ _ hvs).2
    have hlen := vals_len _ _ hvs
    rw [List.length_take] at hlen
    clear hid
    by_cases hk2 : k < P.size
    · obtain ⟨c, hc⟩ : ∃ c, P.data.toList[k]? = some c := ⟨P.data.toList[k]'(by omega), List.getElem?_eq_getElem (by omega)⟩
      have hx := idx_run 9 P k c hc Tryz.underlying9
      have hlk := look_run m wr hm c
      have HB := Lib.hid hb
      have HM := Lib.hid hm
      cases hv : vl c with
      | none =>
        have hfin : D = .tuple #[.string ⟨#[]⟩, .int .i64 6] := HD.out.1 (by
          have e : P.data.toList = P.data.toList.take k ++ c :: P.data.toList.drop (k + 1) := by
            have hlt2 : k < P.data.toList.length := by omega
            have e2 : P.data.toList[k] = c := (List.getElem?_eq_some_iff.1 hc).2
            rw [← e2, ← List.drop_eq_getElem_cons hlt2, List.take_append_drop]
          rw [e]; exact vals_stop _ _ _ hv)
        rw [hv] at hlk
        have hlk' : ∀ (x : Int) (y : Bool), x = 0 → y = false → Sem.run Tryz.prog (Instr.lookup 111 (.map (some m)) (.int .u8 (c.toNat : Int)) true) wr = .ok (.tuple #[.int .i64 x, .bool y]) wr := fun x y hx hy => by rw [hx, hy]; exact hlk
        have hlk2 := hlk' 0 false rfl rfl
        clear hvs hp hm hb hlk hlk' hc hv hlen hvl hPs HD
        subst hfin
        go_wp2
        go_ret2
        exact ⟨rfl, HB.out⟩
      | some v =>
        have hv64 := (ch_vl c v hv).1
        have hvs2 := vals_snoc _ c vs v hvs hv
        have htk : P.data.toList.take (k + 1) = P.data.toList.take k ++ [c] := by rw [List.take_add_one, hc]; rfl
        rw [← htk] at hvs2
        rw [hv] at hlk
        have hlk2 : Sem.run Tryz.prog (Instr.lookup 111 (.map (some m)) (.int .u8 (c.toNat : Int)) true) wr = .ok (.tuple #[.int .i64 (v : Int), .bool true]) wr := hlk
        have HC := Lib.hid (putD_any _ _ _ _ (runD vs) v hv64 (runD_ok _ hvl) wr hp (by have := runD_len vs; omega))
        have HV := Lib.hid hvs2
        have HR9 := Lib.hid (runD_snoc vs v)
        clear hvs hp hm hb hlk hc hv hlen hvl hPs hvs2 htk
        go_wp2_with (go_at_call 82; refine HC.out.mono ?_; rintro e w5 ⟨rfl, hp5, hs5⟩; rw [← HR9.out] at hp5; have HI := Lib.hid (And.intro hp5 (And.intro ((hs5.2 m rfl).trans HM.out) (HB.out.trans (hs5.1.mono hwb)))); clear hp5 hs5)
        refine ⟨⟨k + 1, by omega, by go_num, _, HV.out, HI.out⟩, ?_⟩
        show P.size - ((k : Int) + 1).toNat < P.size - (k : Int).toNat
        omega
    · obtain rfl : k = P.size := by omega
      rw [List.take_of_length_le (by omega)] at hvs
      have hdr := dec_run vs hvl
      have hok := runD_ok vs hvl
      have hrl := runD_len vs
      have HD2 := Lib.hid (And.intro (HD.out.2.1 vs hvs) (HD.out.2.2 vs hvs))
      have HB := Lib.hid hb
      clear HD hvs hm hb hPs
      generalize runD vs = p at hp hdr hok hrl
      obtain ⟨b, k, o⟩ := p
      have HR8 := Lib.hid hdr
      clear hdr
      have HC := Lib.hid (rest_any _ _ _ _ _ _ _ _ _ _ wr hp)
      simp only at HC hrl
      clear hp
      have hok' : OkD ⟨b, k, o⟩ := hok
      clear hok
      by_cases hk6 : k < 6
      · by_cases hb0 : b = 0
        · have hokE : okE (decE 0 0 vs) = true := by rw [HR8.out.2]; simp [hk6, hb0]
          have hfin := HD2.out.2 hokE
          rw [← HR8.out.1] at hfin
          have hk7 : (k : Int) < 6 := by omega
          have HOo := Lib.hid (show o.length ≤ 9000 by omega)
          clear HD2 HR8 hokE hok' hrl hlen
          subst hfin
          subst hb0
          go_wp2_with (go_at_call 83; refine HC.out.mono ?_; rintro e w5 ⟨rfl, hp5, hs5⟩; obtain ⟨v, hbT, hown, hof⟩ := hp5.row; obtain ⟨A, cc, rfl, hcc, -⟩ := own_slice hown; have hcT := hbT.cell 0 _ rfl; have hcv := str_back hown; have HS5 := Lib.hid hs5.1; clear hp5 hs5 hbT hown hof)
          go_ret2
          exact ⟨rfl, HB.out.trans (HS5.out.mono hwb)⟩
        · have hokE : okE (decE 0 0 vs) = false := by rw [HR8.out.2]; simp [hk6, hb0]
          have hfin := HD2.out.1 hokE
          have hk7 : (k : Int) < 6 := by omega
          have hb7 : (b : Int) ≠ 0 := by omega
          have hb8 : ((b : Int) != 0) = true := by simpa using hb7
          clear HD2 HR8 hokE hok' hrl hlen
          subst hfin
          go_wp2_with (go_at_call 83; refine HC.out.mono ?_; rintro e w5 ⟨rfl, hp5, hs5⟩; have HS5 := Lib.hid hs5.1; clear hp5 hs5)
          go_ret2
          exact ⟨rfl, HB.out.trans (HS5.out.mono hwb)⟩
      · have hokE : okE (decE 0 0 vs) = false := by rw [HR8.out.2]; simp [hk6]
        have hfin := HD2.out.1 hokE
        have hk7 : (6 : Int) ≤ k := by omega
        clear HD2 HR8 hokE hok' hrl hlen
        subst hfin
        go_wp2_with (go_at_call 83; refine HC.out.mono ?_; rintro e w5 ⟨rfl, hp5, hs5⟩; have HS5 := Lib.hid hs5.1; clear hp5 hs5)
        go_ret2
        exact ⟨rfl, HB.out.trans (HS5.out.mono hwb)⟩

set_option maxRecDepth 100000 in
set_option maxHeartbeats 4000000 in
theorem decode_bare (s : ByteArray) (w : World) (h : s.size ≤ 8192) (hne : s.data.toList = trimL s.data.toList) : Calls Tryz.prog 69 #[.string s] w fun e w' => e = .returned (decV' s.data.toList) ∧ Below w.heap.size w w' := by
  obtain ⟨hd1', hd2', hd3'⟩ := decL_pad s.data.toList (.inl hne)
  have h1 : (s.size : Int) ≤ 8192 := by omega
  have hlt := trim_len s.data.toList
  simp only [Array.length_toList] at hlt
  obtain ⟨P, hP⟩ : ∃ P : ByteArray, P = ⟨(trimL s.data.toList).toArray⟩ := ⟨_, rfl⟩
  have hPl : P.data.toList = trimL s.data.toList := by rw [hP]
  have hPz : P.size = (trimL s.data.toList).length := by rw [hP, Lib.size_mk]
  have hPz2 : P.size ≤ 8192 := by rw [hPz]; exact Nat.le_trans hlt h
  have HT := Lib.hid (fun W => Tryz.strings_TrimRight_one s 61 (by decide) W (by omega))
  have HP := Lib.hid (show (⟨(Lib.trimRightB s.data.toList 61).toArray⟩ : ByteArray) = P from hP.symm)
  have q1 : (s.toList == P.toList) = true := by
    have e : s = P := ba_eq (by rw [hPl]; exact hne)
    rw [← e]; simp
  have hd1 : valsL P.data.toList = none → decV' s.data.toList = .tuple #[.string ⟨#[]⟩, .int .i64 6] := fun e => decV_none _ (hd1' (hPl ▸ e))
  have hd2 : ∀ vs, valsL P.data.toList = some vs → okE (decE 0 0 vs) = false → decV' s.data.toList = .tuple #[.string ⟨#[]⟩, .int .i64 6] := fun vs e1 e2 => decV_none _ (hd2' vs (hPl ▸ e1) e2)
  have hd3 : ∀ vs, valsL P.data.toList = some vs → okE (decE 0 0 vs) = true → decV' s.data.toList = .tuple #[.string ⟨(decV 0 0 vs).toArray⟩, .int .i64 0] := fun vs e1 e2 => decV_some _ _ (hd3' vs (hPl ▸ e1) e2)
  have HD := Lib.hid (And.intro hd1 (And.intro hd2 hd3))
  clear hd1 hd2 hd3 hd1' hd2' hd3' hP hPl hPz hlt hne
  generalize decV' s.data.toList = D at HD ⊢
  go_enter Tryz.func69, Tryz.ntmps69
  go_wp2_with (first
    | (go_at_call 89; refine (HT.out _).mono ?_; rintro e w1 ⟨rfl, rfl⟩; rw [HP.out])
    | (go_at_call 55; refine (startD_any w1 6 8 90).mono ?_; rintro e w3 ⟨rfl, hp3, hb3⟩)
    | (go_at_call 91; refine (values_any w3).mono ?_; rintro e w4 ⟨rfl, rfl⟩))
  obtain ⟨p4, m4, b4⟩ := hp3.mapped
  generalize w3.alloc (mapE 64) = w4 at p4 m4 b4 ⊢
  have HB := Lib.hid (show Below w1.heap.size w1 w4 from hb3.trans b4)
  have HP4 := Lib.hid (show HpD (fun j => j = w3.heap.size) w1.heap.size (w1.heap.size + 1) w1.heap.size ⟨0, 0, []⟩ w4 from p4)
  have HM4 := Lib.hid m4
  have hwb : w1.heap.size ≤ w1.heap.size := Nat.le_refl _
  clear p4 m4 b4 hp3 hb3
  generalize w3.heap.size = m at HP4 HM4 ⊢
  have hPs : P.data.toList.length = P.size := by simp
  go_loopw [39] (fun i wr => ∃ k : Nat, k ≤ P.size ∧ i = .int .i64 k ∧ Hid (∃ vs, valsL (P.data.toList.take k) = some vs ∧ HpD (fun j => j = m) w1.heap.size (w1.heap.size + 1) w1.heap.size (runD vs) wr ∧ wr.heap[m]? = some (mapE 64) ∧ Below w1.heap.size w1 wr)) (fun i _ => P.size - (intOf i).toNat)
  case atStart => exact ⟨0, by omega, rfl, [], rfl, HP4.out, HM4.out, HB.out⟩
  case round =>
    clear HP4 HM4 HB
    obtain ⟨k, hk, rfl, hid⟩ := hrel
    obtain ⟨vs, hvs, hp, hm, hb⟩ := hid.out
    have hvl : ∀ v ∈ vs, v < 64 := (map_vals _ _ hvs).2
    have hlen := vals_len _ _ hvs
    rw [List.length_take] at hlen
    clear hid
    by_cases hk2 : k < P.size
    · obtain ⟨c, hc⟩ : ∃ c, P.data.toList[k]? = some c := ⟨P.data.toList[k]'(by omega), List.getElem?_eq_getElem (by omega)⟩
      have hx := idx_run 9 P k c hc Tryz.underlying9
      have hlk := look_run m wr hm c
      have HB := Lib.hid hb
      have HM := Lib.hid hm
      cases hv : vl c with
      | none =>
        have hfin : D = .tuple #[.string ⟨#[]⟩, .int .i64 6] := HD.out.1 (by
          have e : P.data.toList = P.data.toList.take k ++ c :: P.data.toList.drop (k + 1) := by
            have hlt2 : k < P.data.toList.length := by omega
            have e2 : P.data.toList[k] = c := (List.getElem?_eq_some_iff.1 hc).2
            rw [← e2, ← List.drop_eq_getElem_cons hlt2, List.take_append_drop]
          rw [e]; exact vals_stop _ _ _ hv)
        rw [hv] at hlk
        have hlk' : ∀ (x : Int) (y : Bool), x = 0 → y = false → Sem.run Tryz.prog (Instr.lookup 111 (.map (some m)) (.int .u8 (c.toNat : Int)) true) wr = .ok (.tuple #[.int .i64 x, .bool y]) wr := fun x y hx hy => by rw [hx, hy]; exact hlk
        have hlk2 := hlk' 0 false rfl rfl
        clear hvs hp hm hb hlk hlk' hc hv hlen hvl hPs HD
        subst hfin
        go_wp2
        go_ret2
        exact ⟨rfl, HB.out⟩
      | some v =>
        have hv64 := (ch_vl c v hv).1
        have hvs2 := vals_snoc _ c vs v hvs hv
        have htk : P.data.toList.take (k + 1) = P.data.toList.take k ++ [c] := by rw [List.take_add_one, hc]; rfl
        rw [← htk] at hvs2
        rw [hv] at hlk
        have hlk2 : Sem.run Tryz.prog (Instr.lookup 111 (.map (some m)) (.int .u8 (c.toNat : Int)) true) wr = .ok (.tuple #[.int .i64 (v : Int), .bool true]) wr := hlk
        have HC := Lib.hid (putD_any _ _ _ _ (runD vs) v hv64 (runD_ok _ hvl) wr hp (by have := runD_len vs; omega))
        have HV := Lib.hid hvs2
        have HR9 := Lib.hid (runD_snoc vs v)
        clear hvs hp hm hb hlk hc hv hlen hvl hPs hvs2 htk
        go_wp2_with (go_at_call 82; refine HC.out.mono ?_; rintro e w5 ⟨rfl, hp5, hs5⟩; rw [← HR9.out] at hp5; have HI := Lib.hid (And.intro hp5 (And.intro ((hs5.2 m rfl).trans HM.out) (HB.out.trans (hs5.1.mono hwb)))); clear hp5 hs5)
        refine ⟨⟨k + 1, by omega, by go_num, _, HV.out, HI.out⟩, ?_⟩
        show P.size - ((k : Int) + 1).toNat < P.size - (k : Int).toNat
        omega
    · obtain rfl : k = P.size := by omega
      rw [List.take_of_length_le (by omega)] at hvs
      have hdr := dec_run vs hvl
      have hok := runD_ok vs hvl
      have hrl := runD_len vs
      have HD2 := Lib.hid (And.intro (HD.out.2.1 vs hvs) (HD.out.2.2 vs hvs))
      have HB := Lib.hid hb
      clear HD hvs hm hb hPs
      generalize runD vs = p at hp hdr hok hrl
      obtain ⟨b, k, o⟩ := p
      have HR8 := Lib.hid hdr
      clear hdr
      have HC := Lib.hid (rest_any _ _ _ _ _ _ _ _ _ _ wr hp)
      simp only at HC hrl
      clear hp
      have hok' : OkD ⟨b, k, o⟩ := hok
      clear hok
      by_cases hk6 : k < 6
      · by_cases hb0 : b = 0
        · have hokE : okE (decE 0 0 vs) = true := by rw [HR8.out.2]; simp [hk6, hb0]
          have hfin := HD2.out.2 hokE
          rw [← HR8.out.1] at hfin
          have hk7 : (k : Int) < 6 := by omega
          have HOo := Lib.hid (show o.length ≤ 9000 by omega)
          clear HD2 HR8 hokE hok' hrl hlen
          subst hfin
          subst hb0
          go_wp2_with (go_at_call 83; refine HC.out.mono ?_; rintro e w5 ⟨rfl, hp5, hs5⟩; obtain ⟨v, hbT, hown, hof⟩ := hp5.row; obtain ⟨A, cc, rfl, hcc, -⟩ := own_slice hown; have hcT := hbT.cell 0 _ rfl; have hcv := str_back hown; have HS5 := Lib.hid hs5.1; clear hp5 hs5 hbT hown hof)
          go_ret2
          exact ⟨rfl, HB.out.trans (HS5.out.mono hwb)⟩
        · have hokE : okE (decE 0 0 vs) = false := by rw [HR8.out.2]; simp [hk6, hb0]
          have hfin := HD2.out.1 hokE
          have hk7 : (k : Int) < 6 := by omega
          have hb7 : (b : Int) ≠ 0 := by omega
          have hb8 : ((b : Int) != 0) = true := by simpa using hb7
          clear HD2 HR8 hokE hok' hrl hlen
          subst hfin
          go_wp2_with (go_at_call 83; refine HC.out.mono ?_; rintro e w5 ⟨rfl, hp5, hs5⟩; have HS5 := Lib.hid hs5.1; clear hp5 hs5)
          go_ret2
          exact ⟨rfl, HB.out.trans (HS5.out.mono hwb)⟩
      · have hokE : okE (decE 0 0 vs) = false := by rw [HR8.out.2]; simp [hk6]
        have hfin := HD2.out.1 hokE
        have hk7 : (6 : Int) ≤ k := by omega
        clear HD2 HR8 hokE hok' hrl hlen
        subst hfin
        go_wp2_with (go_at_call 83; refine HC.out.mono ?_; rintro e w5 ⟨rfl, hp5, hs5⟩; have HS5 := Lib.hid hs5.1; clear hp5 hs5)
        go_ret2
        exact ⟨rfl, HB.out.trans (HS5.out.mono hwb)⟩

theorem decode_any (s : ByteArray) (w : World) (h : s.size ≤ 8192) : Calls Tryz.prog 69 #[.string s] w fun e w' => e = .returned (decV' s.data.toList) ∧ Below w.heap.size w w' := by
  by_cases h1 : s.data.toList = trimL s.data.toList
  · exact decode_bare s w h h1
  · by_cases h2 : s.data.toList = trimL s.data.toList ++ padL (trimL s.data.toList).length
    · exact decode_pad s w h h1 h2
    · exact decode_bad s w h h1 h2
end Go.Proofs.YtoilcigmpeaedaaGreatDoor.B64
