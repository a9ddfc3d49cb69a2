/-
  Contracts of padding and of Encode.
-/
import Derived.Test.YtoilcigmpeaedaaGreatDoorB64D
import Derived.Test.YtoilcigmpeaedaaGreatDoorB64Shelf
import Derived.Laws.OwnMore
namespace Go.Proofs.YtoilcigmpeaedaaGreatDoor.B64
open Go.RowKit Utf

theorem repeat_one (c : UInt8) (n : Nat) : Lib.repeatL [c] n = List.replicate n c := by
  induction n with
  | zero => rfl
  | succ n ih => rw [Lib.repeatL, ih, List.replicate_succ]; rfl
set_option maxRecDepth 100000 in
set_option maxHeartbeats 1000000 in
theorem padding_any (n : Nat) (hn : n ≤ 1000000000) (w : World) : Calls Tryz.prog 57 #[.int .i64 (n : Int)] w fun e w' => e = .returned (.string ⟨(padL n).toArray⟩) ∧ Below w.heap.size w w' := by
  obtain ⟨m, hm⟩ : ∃ m, m = (4 - n % 4) % 4 := ⟨_, rfl⟩
  have h1 : (4 - (n : Int) % 4) % 4 = (m : Int) := by omega
  have h2 : padL n = List.replicate m 61 := by rw [padL, hm]
  have h3 : m ≤ 4 := by omega
  rw [h2]
  clear hm h2
  go_enter Tryz.func57, Tryz.ntmps57
  go_wp2_with (go_at_call 19; rw [h1]; refine (Tryz.strings_Repeat ⟨#[61]⟩ m _ (by omega) (by show 1 * m ≤ _; omega)).mono ?_; rintro e w1 ⟨rfl, hb1⟩)
  go_ret
  refine ⟨?_, hb1⟩
  show Ending.returned (.string ⟨(Lib.repeatL [61] m).toArray⟩) = _
  rw [repeat_one]

set_option maxRecDepth 100000 in
set_option maxHeartbeats 1000000 in
theorem encode_long (s : ByteArray) (w : World) (h : 4096 < s.size) : Calls Tryz.prog 28 #[.string s] w fun e w' => e = .returned (.tuple #[.string ⟨#[]⟩, .int .i64 3]) ∧ w' = w := by
  have h1 : (4096 : Int) < s.size := by omega
  go_enter Tryz.func28, Tryz.ntmps28
  go_wp2
  go_ret2
  exact ⟨rfl, rfl⟩

theorem padL_size (q : Nat) : (⟨(padL q).toArray⟩ : ByteArray).size ≤ 4 := by
  rw [Lib.size_mk, padL, List.length_replicate]
  omega
theorem str_back {w : World} {B n : Nat} {v : Value} {l : List UInt8} (h : w.ownsRow B 5 1 v n (cB l)) : (convert 38 9 v).run Tryz.prog w = .ok (.string ⟨l.toArray⟩) w := by
  have hl : n = l.length := by have := h.1; rw [cB_len] at this; omega
  subst hl
  rcases h.2 with ⟨rfl, h0⟩ | ⟨g, cap, cur, rfl, _⟩
  · obtain rfl : l = [] := List.eq_nil_of_length_eq_zero h0
    rw [run_convert_bytes_string w 38 9 5 none 0 0 Tryz.underlying38 Tryz.underlying5 Tryz.underlying9]
    rfl
  · refine run_convert_bytes_back w 38 9 5 ⟨g, 0, none⟩ cap l Tryz.underlying38 Tryz.underlying5 Tryz.underlying9 fun j hj => ?_
    exact h.cells (g := g) rfl j _ (cB_at l j _ (List.getElem?_eq_getElem hj))

/-- what is pending, of how many bits, and the bytes made so far -/
structure MS where
  b : Nat
  k : Nat
  o : List UInt8
def stE (p : MS) (x : UInt8) : MS :=
  if p.k = 0 then ⟨(p.b * 256 + x.toNat) % 4, 2, p.o ++ [ch ((p.b * 256 + x.toNat) / 4)]⟩
  else if p.k = 2 then ⟨(p.b * 256 + x.toNat) % 16, 4, p.o ++ [ch ((p.b * 256 + x.toNat) / 16)]⟩
  else ⟨0, 0, p.o ++ [ch ((p.b * 256 + x.toNat) / 64)] ++ [ch ((p.b * 256 + x.toNat) % 64)]⟩
def OkE (p : MS) : Prop := (p.k = 0 ∧ p.b < 1) ∨ (p.k = 2 ∧ p.b < 4) ∨ (p.k = 4 ∧ p.b < 16)
theorem stE_ok (p : MS) (x : UInt8) (h : OkE p) : OkE (stE p x) := by
  unfold stE OkE
  rcases h with ⟨h, _⟩ | ⟨h, _⟩ | ⟨h, _⟩
  · rw [if_pos h]; right; left; exact ⟨rfl, by show _ % 4 < 4; omega⟩
  · rw [if_neg (by omega), if_pos h]; right; right; exact ⟨rfl, by show _ % 16 < 16; omega⟩
  · rw [if_neg (by omega), if_neg (by omega)]; left; exact ⟨rfl, by show 0 < 1; omega⟩
theorem stE_len (p : MS) (x : UInt8) : (stE p x).o.length ≤ p.o.length + 2 := by
  unfold stE
  split
  · simp
  · split <;> simp
def runE (l : List UInt8) : MS := l.foldl stE ⟨0, 0, []⟩
theorem runE_snoc (l : List UInt8) (k : Nat) (x : UInt8) (h : l[k]? = some x) : runE (l.take (k + 1)) = stE (runE (l.take k)) x := by
  unfold runE
  rw [List.take_add_one, h, Option.toList_some, List.foldl_append]
  rfl
theorem runE_ok (l : List UInt8) : OkE (runE l) := by
  unfold runE
  generalize hp : (⟨0, 0, []⟩ : MS) = p
  have hk : OkE p := by subst hp; left; exact ⟨rfl, by show 0 < 1; omega⟩
  clear hp
  induction l generalizing p with
  | nil => exact hk
  | cons x r ih => exact ih _ (stE_ok p x hk)
theorem runE_len (l : List UInt8) : (runE l).o.length ≤ 2 * l.length := by
  unfold runE
  have : ∀ (l : List UInt8) (p : MS), (l.foldl stE p).o.length ≤ p.o.length + 2 * l.length := by
    intro l
    induction l with
    | nil => intro p; simp
    | cons x r ih =>
      intro p
      have h1 := ih (stE p x)
      have h2 := stE_len p x
      rw [List.foldl_cons, List.length_cons]
      omega
  have := this l ⟨0, 0, []⟩
  simpa using this
def finE (p : MS) : List UInt8 := p.o ++ if p.k = 0 then [] else [ch (p.b * 2 ^ (6 - p.k))]
theorem run_enc (l : List UInt8) (p : MS) (h : OkE p) : finE (l.foldl stE p) = p.o ++ (encV p.b p.k l).map ch := by
  induction l generalizing p with
  | nil =>
    show finE p = _
    unfold finE
    by_cases h0 : p.k = 0
    · rw [if_pos h0, encV, if_pos h0]; rfl
    · rw [if_neg h0, encV, if_neg h0]; rfl
  | cons x r ih =>
    rw [List.foldl_cons, ih _ (stE_ok p x h)]
    have hx := x.toNat_lt
    unfold stE
    rcases h with ⟨hk, hb⟩ | ⟨hk, hb⟩ | ⟨hk, hb⟩
    · rw [if_pos hk, hk, encV0]
      obtain h0 : p.b = 0 := by omega
      simp [h0]
    · rw [if_neg (by omega), if_pos hk, hk, encV2]
      have e1 : (p.b * 256 + x.toNat) % 16 = x.toNat % 16 := by omega
      have e2 : (p.b * 256 + x.toNat) / 16 = p.b * 16 + x.toNat / 16 := by omega
      simp [e1, e2]
    · rw [if_neg (by omega), if_neg (by omega), hk, encV4]
      have e1 : (p.b * 256 + x.toNat) % 64 = x.toNat % 64 := by omega
      have e2 : (p.b * 256 + x.toNat) / 64 = p.b * 4 + x.toNat / 64 := by omega
      simp [e1, e2]
theorem bare_run (l : List UInt8) : finE (runE l) = bareL l := by
  have := run_enc l ⟨0, 0, []⟩ (.inl ⟨rfl, by show 0 < 1; omega⟩)
  exact this

def HpE (base n T : Nat) (p : MS) (w : World) : Prop := Hp (fun _ => False) base n T 8 6 (.func (.func 56) #[] #[.pointer (some ⟨T, 0, none⟩)]) p.b p.k p.o w
theorem putE_any (base n T : Nat) (p : MS) (x : UInt8) (hp : OkE p) (w : World) (h : HpE base n T p w) (hl : p.o.length ≤ 800000) :
    Calls Tryz.prog 82 #[.int .i64 (x.toNat : Int), .pointer (some ⟨n + 3, 0, none⟩), .pointer (some ⟨n, 0, none⟩), .pointer (some ⟨n + 4, 0, none⟩), .pointer (some ⟨n + 1, 0, none⟩), .pointer (some ⟨n + 2, 0, none⟩)] w fun e w' => e = .returned (.tuple #[]) ∧ HpE base n T (stE p x) w' ∧ Below base w w' := by
  have hx : x.toNat < 256 := x.toNat_lt
  obtain ⟨b, k, o⟩ := p
  rcases hp with ⟨hk, hb⟩ | ⟨hk, hb⟩ | ⟨hk, hb⟩
  · obtain rfl : k = 0 := hk
    exact (putE_0 _ base n T b x.toNat o hb hx w h hl).mono fun e w' ⟨h1, h2, h3⟩ => ⟨h1, h2, h3.1⟩
  · obtain rfl : k = 2 := hk
    exact (putE_2 _ base n T b x.toNat o hb hx w h hl).mono fun e w' ⟨h1, h2, h3⟩ => ⟨h1, h2, h3.1⟩
  · obtain rfl : k = 4 := hk
    exact (putE_4 _ base n T b x.toNat o hb hx w h hl).mono fun e w' ⟨h1, h2, h3⟩ => ⟨h1, h2, h3.1⟩

theorem madeCells_size (z : Array Value) (n : Nat) : (madeCells z n).size = n := by simp [madeCells]
theorem start_any (w : World) (m : Nat) (hm : m ≤ 1000000) (fr tt : Int) (f : Nat) :
    Calls Tryz.prog 55 #[.int .i64 fr, .int .i64 tt, .func (.func f) #[] #[.pointer (some ⟨w.heap.size + 1, 0, none⟩)]] ((w.alloc (.cells (madeCells (Value.int .u8 0).cells m) 5)).alloc (.cells #[.slice (some ⟨w.heap.size, 0, none⟩) 0 m] 38)) fun e w' =>
    e = .returned (.tuple #[.func (.func 82) #[] #[.pointer (some ⟨w.heap.size + 2 + 3, 0, none⟩), .pointer (some ⟨w.heap.size + 2, 0, none⟩), .pointer (some ⟨w.heap.size + 2 + 4, 0, none⟩), .pointer (some ⟨w.heap.size + 2 + 1, 0, none⟩), .pointer (some ⟨w.heap.size + 2 + 2, 0, none⟩)], .func (.func 83) #[] #[.pointer (some ⟨w.heap.size + 2 + 3, 0, none⟩), .pointer (some ⟨w.heap.size + 2 + 4, 0, none⟩)]]) ∧
    Hp (fun _ => False) w.heap.size (w.heap.size + 2) (w.heap.size + 1) fr tt (.func (.func f) #[] #[.pointer (some ⟨w.heap.size + 1, 0, none⟩)]) 0 0 [] w' ∧ Below w.heap.size w w' := by
  obtain ⟨W, hW⟩ : ∃ W, W = w.alloc (.cells (madeCells (Value.int .u8 0).cells m) 5) := ⟨_, rfl⟩
  obtain ⟨W1, hW1⟩ : ∃ W1, W1 = W.alloc (.cells #[.slice (some ⟨w.heap.size, 0, none⟩) 0 m] 38) := ⟨_, rfl⟩
  have s1 : W.heap.size = w.heap.size + 1 := by rw [hW, World.size_alloc]
  have s2 : W1.heap.size = w.heap.size + 2 := by rw [hW1, World.size_alloc, s1]
  have hown : W.ownsRow w.heap.size 5 1 (.slice (some ⟨w.heap.size, 0, none⟩) 0 m) 0 [] := by
    rw [hW]; exact World.ownsRow_made w _ m (Nat.le_refl _) (by unfold maxLen; omega) (by rw [madeCells_size, Nat.mul_one])
  have hbT : Box W1 (w.heap.size + 1) [.slice (some ⟨w.heap.size, 0, none⟩) 0 m] := by rw [hW1, ← s1]; exact Box.new W _ _
  have k1 : Below w.heap.size w W := by rw [hW]; exact below_box _ _
  have k2 : Below W.heap.size W W1 := by rw [hW1]; exact below_box _ _
  rw [← hW, ← hW1]
  refine (regroup_any fr tt f ⟨w.heap.size + 1, 0, none⟩ W1).mono ?_
  rintro e w2 ⟨rfl, x0, x1, x2, x3, x4, hb⟩
  rw [s2] at x0 x1 x2 x3 x4 ⊢
  refine ⟨rfl, ⟨by omega, by omega, by omega, fun j hj => hj.elim, x0, x1, x2, x3, x4, _, hbT.keep hb, own_below (own_below hown k2) hb, fun g hg => ?_⟩, up (up k1 k2) hb⟩
  have hg' : w.heap.size = g := by simpa [Value.ownBlock] using hg
  exact ⟨by omega, by omega, id⟩

set_option maxRecDepth 100000 in
set_option maxHeartbeats 4000000 in
theorem encode_any (s : ByteArray) (w : World) (h : s.size ≤ 4096) : Calls Tryz.prog 28 #[.string s] w fun e w' => e = .returned (.tuple #[.string ⟨(encL s.data.toList).toArray⟩, .int .i64 0]) ∧ Below w.heap.size w w' := by
  have h1 : (s.size : Int) ≤ 4096 := by omega
  obtain ⟨m, hm⟩ : ∃ m, m = (s.size + 2) / 3 * 4 := ⟨_, rfl⟩
  have hm1 : m ≤ 5464 := by omega
  have HS := Lib.hid (show sizeI (s.size : Int) = (m : Int) by unfold sizeI; omega)
  clear hm
  obtain ⟨i1, hi1, hy0, hy1, hy2⟩ := info_parts infoB
  have hmk : ∀ W : World, (Instr.makeSlice 38 (.int .i64 0) (.int .i64 (m : Int))).run Tryz.prog W = .ok (.slice (some ⟨W.heap.size, 0, none⟩) 0 m) (W.alloc (.cells (madeCells (Value.int .u8 0).cells m) 5)) := fun W => by
    have := run_makeSlice (P := Tryz.prog) (w := W) 38 5 i1 _ Tryz.underlying38 hi1 hy0 .i64 .i64 0 m (by omega) (by omega) (by rw [hy1]; omega) (by rw [hy2]; omega) (by omega)
    rw [hy1] at this
    simpa using this
  go_enter Tryz.func28, Tryz.ntmps28
  go_wp2_with (first
    | (go_at_call 54; refine (size_any _ _ (by omega)).mono ?_; rintro e w1 ⟨rfl, rfl⟩; rw [HS.out])
    | (go_at_call 55; refine (start_any w1 m (by omega) 8 6 56).mono ?_; rintro e w2 ⟨rfl, hp, hb2⟩; have HP := Lib.hid (show HpE w1.heap.size (w1.heap.size + 2) (w1.heap.size + 1) ⟨0, 0, []⟩ w2 from hp); clear hp))
  have hls : s.data.toList.length = s.size := by simp
  go_loopw [24] (fun i wr => ∃ k : Nat, k ≤ s.size ∧ i = .int .i64 k ∧ Hid (HpE w1.heap.size (w1.heap.size + 2) (w1.heap.size + 1) (runE (s.data.toList.take k)) wr ∧ Below w1.heap.size w1 wr)) (fun i _ => s.size - (intOf i).toNat)
  case atStart => exact ⟨0, by omega, rfl, HP.out, hb2⟩
  case round =>
    clear HP hb2
    obtain ⟨k, hk, rfl, hid⟩ := hrel
    by_cases hk2 : k < s.size
    · obtain ⟨c, hc⟩ : ∃ c, s.data.toList[k]? = some c := ⟨s.data.toList[k]'(by omega), List.getElem?_eq_getElem (by omega)⟩
      have hx := idx_run 9 s k c hc Tryz.underlying9
      have HC := Lib.hid (putE_any _ _ _ (runE (s.data.toList.take k)) c (runE_ok _) wr hid.out.1 (by have := runE_len (s.data.toList.take k); rw [List.length_take] at this; omega))
      have HB := Lib.hid hid.out.2
      have HR := Lib.hid (runE_snoc s.data.toList k c hc)
      have hc1 : (c.toNat : Int) < 256 := by have := c.toNat_lt; omega
      clear hid hc hls
      go_wp2_with (go_at_call 82; refine HC.out.mono ?_; rintro e w3 ⟨rfl, hp3, hb3⟩; rw [← HR.out] at hp3; have HI := Lib.hid (And.intro hp3 (HB.out.trans hb3)); clear hp3 hb3)
      refine ⟨⟨k + 1, by omega, by go_num, HI⟩, ?_⟩
      show s.size - ((k : Int) + 1).toNat < s.size - (k : Int).toNat
      omega
    · obtain rfl : k = s.size := by omega
      have hid2 := hid.out
      rw [List.take_of_length_le (by omega)] at hid2
      have hok := runE_ok s.data.toList
      have hlen := runE_len s.data.toList
      have hfin := bare_run s.data.toList
      clear hid hls
      generalize runE s.data.toList = p at hid2 hok hlen hfin
      obtain ⟨b, k, o⟩ := p
      have hp := hid2.1
      have HB := Lib.hid hid2.2
      have HL := Lib.hid hlen
      have HF := Lib.hid hfin
      clear hid2 hlen hfin
      generalize hT : w1.heap.size + 1 = T at hp ⊢
      generalize hn : w1.heap.size + 2 = n at hp ⊢
      have HTn := Lib.hid (And.intro hT hn)
      clear hT hn
      have HC := Lib.hid (rest_any _ _ _ _ _ _ _ _ _ _ wr hp)
      clear hp
      simp only at HL HC
      rcases hok with ⟨hk0, hb⟩ | ⟨hk0, hb⟩ | ⟨hk0, hb⟩
      · obtain rfl : k = 0 := hk0
        have hb' : b < 1 := hb
        clear hb
        go_wp2_with (go_at_call 83; refine HC.out.mono ?_; rintro e w4 ⟨rfl, hp4, hs4⟩)
        obtain ⟨v, hbT, hown, hof⟩ := hp4.row
        obtain ⟨A, cc, rfl, hcc, -⟩ := own_slice hown
        have hcT' : w4.drew.cell? ⟨T, 0, none⟩ = some (.slice A (o).length cc) := hbT.cell 0 _ rfl
        have hcv := str_back (w := w4.drew) hown.drew
        have HS4 := Lib.hid (HB.out.trans hs4.1).drew
        have hq : (o).length ≤ 8193 := by
          have := HL.out
          simp at this
          simp
          omega
        obtain ⟨S, hS⟩ : ∃ S : ByteArray, S = ⟨(o).toArray⟩ := ⟨_, rfl⟩
        rw [← hS] at hcv
        have hSz : S.size = (o).length := by rw [hS, Lib.size_mk]
        have HSS := Lib.hid hS
        have HOw := Lib.hid (hown.drew)
        have HBT := Lib.hid hbT.drew
        obtain ⟨q, hqe⟩ : ∃ q, q = (o).length := ⟨_, rfl⟩
        rw [← hqe] at hcv hcT' hq hSz hcc HOw HBT
        have HQ := Lib.hid hqe
        clear hp4 hs4 hown hof hbT hS hqe
        go_region_held3 (fun W => W.cell? ⟨T, 0, none⟩ = some (.slice A q cc) ∧ (convert 38 9 (.slice A q cc)).run Tryz.prog W = .ok (.string S) W) (first | (with_reducible exact ⟨hcT', hcv⟩) | (with_reducible exact ⟨hcT5, hcv5⟩)) ((go_at_call 57; refine (padding_any q (by omega) _).mono ?_; rintro e w5 ⟨rfl, hb5⟩; have hcv5 := str_back (own_below HOw.out hb5); rw [← HSS.out] at hcv5; have hcT5 := (HBT.out.keep hb5).cell 0 _ rfl; obtain ⟨R, hR⟩ : ∃ R : ByteArray, R = ⟨(padL q).toArray⟩ := ⟨_, rfl⟩; rw [← hR]; have hRz : R.size ≤ 4 := (by rw [hR]; exact padL_size q); have hl9 : ¬ 9223372036854775807 < q + R.size := (by omega); have HR := Lib.hid hR; clear hR))
        rename_i K5 hK5 x5
        show K5 _ _
        refine hK5 _ _ ?_
        clear hK5
        go_wp2
        go_ret2
        refine ⟨?_, HS4.out.trans (hb5.mono HS4.out.size)⟩
        have e1 : o = bareL s.data.toList := by have h9 := HF.out; rw [← h9]; simp [finE]
        rw [HSS.out, HR.out, HQ.out, e1]
        exact congrArg (fun x => Ending.returned (.tuple #[.string x, .int .i64 0])) (by rw [encL]; rfl)
      · obtain rfl : k = 2 := hk0
        have hb' : b < 4 := hb
        clear hb
        obtain ⟨v1, hv1⟩ : ∃ v : Nat, v = b * 16 := ⟨_, rfl⟩
        have hv2 : (b : Int) * 16 = (v1 : Int) := by omega
        have hv3 : v1 < 64 := by omega
        have HV := Lib.hid hv1
        clear hv1
        have har := alpha_run v1 hv3
        have hw4 : IntKind.i64.wrap 4 = 4 := by decide
        have hv4 : (0 : Int) ≤ v1 := by omega
        have hv5 : (v1 : Int) < 64 := by omega
        have hw5 : IntKind.i64.wrap (v1 : Int) = v1 := IntWalk.i64_in _ (by omega)
        go_wp2_with (go_at_call 83; refine HC.out.mono ?_; rintro e w4 ⟨rfl, hp4, hs4⟩; have HP4 := Lib.hid hp4; have HS0 := Lib.hid hs4.1; clear hp4 hs4)
        obtain ⟨r, hbox, hown, hof⟩ := HP4.out.row
        have hcT : w4.cell? ⟨T, 0, none⟩ = some r := hbox.cell 0 _ rfl
        have hTf : w4.frozen? ⟨T, 0, none⟩ = false := hbox.free 0 (by show 0 < 1; decide)
        have hlt := hbox.1
        have hbs : w1.heap.size ≤ w4.heap.size := Nat.le_trans HB.out.size HS0.out.size
        have HP := Lib.hid (show ∀ W v' c, W.ownsRow w1.heap.size 5 1 v' (o.length + 1) (cB (o ++ [c])) → w4.grownBy W r.ownBlock → (v'.ownBlock = r.ownBlock ∨ ∃ g, v'.ownBlock = some g ∧ w4.heap.size ≤ g) → _ from fun W v' c h1 h2 h3 => HP4.out.pushed hbox hof hown h1 h2 h3)
        have HO := Lib.hid hown
        have HN := Lib.hid (show r.ownBlock ≠ some T from fun e => (hof T e).1 rfl)
        have HBX := Lib.hid hbox
        have hm9 : o.length ≤ 900000 := by have := HL.out; simp at this; omega
        clear HP4 hof hown hbox
        have HOL := Lib.hid HL.out
        obtain ⟨m9, hm9'⟩ : ∃ m9, m9 = o.length := ⟨_, rfl⟩
        rw [← hm9'] at HP HO hm9
        clear hm9'
        obtain ⟨c9, hc9⟩ : ∃ c9, c9 = ch v1 := ⟨_, rfl⟩
        rw [← hc9] at har
        have HC9 := Lib.hid hc9
        clear hc9
        go_region_law (refine step_appO _ rfl (.tmp 41) (.tmp 47) 38 rfl w1.heap.size 5 i1 _ 1 Tryz.underlying38 hi1 hy0 hy1 hy2 rfl r m9 (cB o) (by simp [Act.eval]) (((HO.out).alloc (.cells #[.int .u8 (c9.toNat : Int)] 5)).drew) (some ⟨w4.heap.size, 0, none⟩) 1 1 [.int .u8 (c9.toNat : Int)] (by simp [Act.eval]) rfl ((Rd.one w4 (.int .u8 (c9.toNat : Int)) 5).below ((Below.refl _ _).drew)) (by intro u hu; simp at hu; subst hu; rfl) (by omega) (by decide) (by simp; omega) ?_; intro v' w6 hown1 hgrow hob; obtain ⟨gg, cap, rfl, -⟩ := hown1.form (by omega); have hb1 := ((HBX.out.alloc _).drew).grown hgrow (Ne.symm HN.out); have y1 := hb1.cell 0 _ rfl; have z1 := hb1.free 0 (by show 0 < 1; decide); clear hb1)
        all_goals
          rename_i K4 hK4
          show K4 _ _
          refine hK4 _ _ ?_
          clear hK4 har hcT hTf y1 z1 hw4 hw5
          rw [cB_snoc] at hown1
          obtain ⟨hp7, hs7⟩ := HP.out w6 _ c9 hown1 (grown_new hgrow) (hob.imp id fun e => ⟨_, e, by simp⟩)
          clear hown1 hgrow hob HP HO HN HBX
          generalize World.setCell w6 _ _ = w7 at hp7 hs7 ⊢
          go_wp2_with fail
          obtain ⟨v, hbT, hown, hof⟩ := hp7.row
          obtain ⟨A, cc, rfl, hcc, -⟩ := own_slice hown
          have hcT' : w7.drew.cell? ⟨T, 0, none⟩ = some (.slice A (o ++ [c9]).length cc) := hbT.cell 0 _ rfl
          have hcv := str_back (w := w7.drew) hown.drew
          have HS4 := Lib.hid ((HB.out.trans HS0.out).trans hs7.1).drew
          have hq : (o ++ [c9]).length ≤ 8193 := by
            have := HL.out
            simp at this
            simp
            omega
          obtain ⟨S, hS⟩ : ∃ S : ByteArray, S = ⟨(o ++ [c9]).toArray⟩ := ⟨_, rfl⟩
          rw [← hS] at hcv
          have hSz : S.size = (o ++ [c9]).length := by rw [hS, Lib.size_mk]
          have HSS := Lib.hid hS
          have HOw := Lib.hid (hown.drew)
          have HBT := Lib.hid hbT.drew
          obtain ⟨q, hqe⟩ : ∃ q, q = (o ++ [c9]).length := ⟨_, rfl⟩
          rw [← hqe] at hcv hcT' hq hSz hcc HOw HBT
          have HQ := Lib.hid hqe
          clear hp7 hs7 hown hof hbT hS hqe
          go_region_held3 (fun W => W.cell? ⟨T, 0, none⟩ = some (.slice A q cc) ∧ (convert 38 9 (.slice A q cc)).run Tryz.prog W = .ok (.string S) W) (first | (with_reducible exact ⟨hcT', hcv⟩) | (with_reducible exact ⟨hcT5, hcv5⟩)) ((go_at_call 57; refine (padding_any q (by omega) _).mono ?_; rintro e w5 ⟨rfl, hb5⟩; have hcv5 := str_back (own_below HOw.out hb5); rw [← HSS.out] at hcv5; have hcT5 := (HBT.out.keep hb5).cell 0 _ rfl; obtain ⟨R, hR⟩ : ∃ R : ByteArray, R = ⟨(padL q).toArray⟩ := ⟨_, rfl⟩; rw [← hR]; have hRz : R.size ≤ 4 := (by rw [hR]; exact padL_size q); have hl9 : ¬ 9223372036854775807 < q + R.size := (by omega); have HR := Lib.hid hR; clear hR))
          rename_i K5 hK5 x5
          show K5 _ _
          refine hK5 _ _ ?_
          clear hK5
          go_wp2
          go_ret2
          refine ⟨?_, HS4.out.trans (hb5.mono HS4.out.size)⟩
          have e1 : o ++ [c9] = bareL s.data.toList := by have h9 := HF.out; rw [← h9, HC9.out, HV.out]; simp [finE]
          rw [HSS.out, HR.out, HQ.out, e1]
          exact congrArg (fun x => Ending.returned (.tuple #[.string x, .int .i64 0])) (by rw [encL]; rfl)
      · obtain rfl : k = 4 := hk0
        have hb' : b < 16 := hb
        clear hb
        obtain ⟨v1, hv1⟩ : ∃ v : Nat, v = b * 4 := ⟨_, rfl⟩
        have hv2 : (b : Int) * 4 = (v1 : Int) := by omega
        have hv3 : v1 < 64 := by omega
        have HV := Lib.hid hv1
        clear hv1
        have har := alpha_run v1 hv3
        have hw4 : IntKind.i64.wrap 2 = 2 := by decide
        have hv4 : (0 : Int) ≤ v1 := by omega
        have hv5 : (v1 : Int) < 64 := by omega
        have hw5 : IntKind.i64.wrap (v1 : Int) = v1 := IntWalk.i64_in _ (by omega)
        go_wp2_with (go_at_call 83; refine HC.out.mono ?_; rintro e w4 ⟨rfl, hp4, hs4⟩; have HP4 := Lib.hid hp4; have HS0 := Lib.hid hs4.1; clear hp4 hs4)
        obtain ⟨r, hbox, hown, hof⟩ := HP4.out.row
        have hcT : w4.cell? ⟨T, 0, none⟩ = some r := hbox.cell 0 _ rfl
        have hTf : w4.frozen? ⟨T, 0, none⟩ = false := hbox.free 0 (by show 0 < 1; decide)
        have hlt := hbox.1
        have hbs : w1.heap.size ≤ w4.heap.size := Nat.le_trans HB.out.size HS0.out.size
        have HP := Lib.hid (show ∀ W v' c, W.ownsRow w1.heap.size 5 1 v' (o.length + 1) (cB (o ++ [c])) → w4.grownBy W r.ownBlock → (v'.ownBlock = r.ownBlock ∨ ∃ g, v'.ownBlock = some g ∧ w4.heap.size ≤ g) → _ from fun W v' c h1 h2 h3 => HP4.out.pushed hbox hof hown h1 h2 h3)
        have HO := Lib.hid hown
        have HN := Lib.hid (show r.ownBlock ≠ some T from fun e => (hof T e).1 rfl)
        have HBX := Lib.hid hbox
        have hm9 : o.length ≤ 900000 := by have := HL.out; simp at this; omega
        clear HP4 hof hown hbox
        have HOL := Lib.hid HL.out
        obtain ⟨m9, hm9'⟩ : ∃ m9, m9 = o.length := ⟨_, rfl⟩
        rw [← hm9'] at HP HO hm9
        clear hm9'
        obtain ⟨c9, hc9⟩ : ∃ c9, c9 = ch v1 := ⟨_, rfl⟩
        rw [← hc9] at har
        have HC9 := Lib.hid hc9
        clear hc9
        go_region_law (refine step_appO _ rfl (.tmp 41) (.tmp 47) 38 rfl w1.heap.size 5 i1 _ 1 Tryz.underlying38 hi1 hy0 hy1 hy2 rfl r m9 (cB o) (by simp [Act.eval]) (((HO.out).alloc (.cells #[.int .u8 (c9.toNat : Int)] 5)).drew) (some ⟨w4.heap.size, 0, none⟩) 1 1 [.int .u8 (c9.toNat : Int)] (by simp [Act.eval]) rfl ((Rd.one w4 (.int .u8 (c9.toNat : Int)) 5).below ((Below.refl _ _).drew)) (by intro u hu; simp at hu; subst hu; rfl) (by omega) (by decide) (by simp; omega) ?_; intro v' w6 hown1 hgrow hob; obtain ⟨gg, cap, rfl, -⟩ := hown1.form (by omega); have hb1 := ((HBX.out.alloc _).drew).grown hgrow (Ne.symm HN.out); have y1 := hb1.cell 0 _ rfl; have z1 := hb1.free 0 (by show 0 < 1; decide); clear hb1)
        all_goals
          rename_i K4 hK4
          show K4 _ _
          refine hK4 _ _ ?_
          clear hK4 har hcT hTf y1 z1 hw4 hw5
          rw [cB_snoc] at hown1
          obtain ⟨hp7, hs7⟩ := HP.out w6 _ c9 hown1 (grown_new hgrow) (hob.imp id fun e => ⟨_, e, by simp⟩)
          clear hown1 hgrow hob HP HO HN HBX
          generalize World.setCell w6 _ _ = w7 at hp7 hs7 ⊢
          go_wp2_with fail
          obtain ⟨v, hbT, hown, hof⟩ := hp7.row
          obtain ⟨A, cc, rfl, hcc, -⟩ := own_slice hown
          have hcT' : w7.drew.cell? ⟨T, 0, none⟩ = some (.slice A (o ++ [c9]).length cc) := hbT.cell 0 _ rfl
          have hcv := str_back (w := w7.drew) hown.drew
          have HS4 := Lib.hid ((HB.out.trans HS0.out).trans hs7.1).drew
          have hq : (o ++ [c9]).length ≤ 8193 := by
            have := HL.out
            simp at this
            simp
            omega
          obtain ⟨S, hS⟩ : ∃ S : ByteArray, S = ⟨(o ++ [c9]).toArray⟩ := ⟨_, rfl⟩
          rw [← hS] at hcv
          have hSz : S.size = (o ++ [c9]).length := by rw [hS, Lib.size_mk]
          have HSS := Lib.hid hS
          have HOw := Lib.hid (hown.drew)
          have HBT := Lib.hid hbT.drew
          obtain ⟨q, hqe⟩ : ∃ q, q = (o ++ [c9]).length := ⟨_, rfl⟩
          rw [← hqe] at hcv hcT' hq hSz hcc HOw HBT
          have HQ := Lib.hid hqe
          clear hp7 hs7 hown hof hbT hS hqe
          go_region_held3 (fun W => W.cell? ⟨T, 0, none⟩ = some (.slice A q cc) ∧ (convert 38 9 (.slice A q cc)).run Tryz.prog W = .ok (.string S) W) (first | (with_reducible exact ⟨hcT', hcv⟩) | (with_reducible exact ⟨hcT5, hcv5⟩)) ((go_at_call 57; refine (padding_any q (by omega) _).mono ?_; rintro e w5 ⟨rfl, hb5⟩; have hcv5 := str_back (own_below HOw.out hb5); rw [← HSS.out] at hcv5; have hcT5 := (HBT.out.keep hb5).cell 0 _ rfl; obtain ⟨R, hR⟩ : ∃ R : ByteArray, R = ⟨(padL q).toArray⟩ := ⟨_, rfl⟩; rw [← hR]; have hRz : R.size ≤ 4 := (by rw [hR]; exact padL_size q); have hl9 : ¬ 9223372036854775807 < q + R.size := (by omega); have HR := Lib.hid hR; clear hR))
          rename_i K5 hK5 x5
          show K5 _ _
          refine hK5 _ _ ?_
          clear hK5
          go_wp2
          go_ret2
          refine ⟨?_, HS4.out.trans (hb5.mono HS4.out.size)⟩
          have e1 : o ++ [c9] = bareL s.data.toList := by have h9 := HF.out; rw [← h9, HC9.out, HV.out]; simp [finE]
          rw [HSS.out, HR.out, HQ.out, e1]
          exact congrArg (fun x => Ending.returned (.tuple #[.string x, .int .i64 0])) (by rw [encL]; rfl)
end Go.Proofs.YtoilcigmpeaedaaGreatDoor.B64
