/-
  B64E B64F B64W B64R B64S
-/
import Derived.Laws.OwnMore
import Derived.Test.YtoilcigmpeaedaaGreatDoorF5
import Derived.Test.YtoilcigmpeaedaaGreatDoorF21
namespace Go.Proofs.YtoilcigmpeaedaaGreatDoor.B64
open Go.RowKit Utf

theorem repeat_one (c : UInt8) (n : Nat) : Lib.repeatL [c] n = List.replicate n c := by
  induction n with
  | zero => rfl
  | succ n ih => rw [Lib.repeatL, ih, List.replicate_succ]; rfl
set_option maxRecDepth 100000 in
set_option maxHeartbeats 1000000 in
theorem padding_any (n : Nat) (hn : n ≤ 1000000000) (w : World) : Calls Tryz.prog 57 #[.int .i64 (n : Int)] w fun e w' => e = .returned (.string ⟨(padL n).toArray⟩) ∧ Below w.heap.size w w' := by
  obtain ⟨m, hm⟩ : ∃ m, m = (4 - n % 4) % 4 := ⟨_, rfl⟩
  have h1 : (4 - (n : Int) % 4) % 4 = (m : Int) := by omega
  have h2 : padL n = List.replicate m 61 := by rw [padL, hm]
  have h3 : m ≤ 4 := by omega
  rw [h2]
  clear hm h2
  go_enter Tryz.func57, Tryz.ntmps57
  go_wp2_with (go_at_call 19; rw [h1]; refine (Tryz.strings_Repeat ⟨#[61]⟩ m _ (by omega) (by show 1 * m ≤ _; omega)).mono ?_; rintro e w1 ⟨rfl, hb1⟩)
  go_ret
  refine ⟨?_, hb1⟩
  show Ending.returned (.string ⟨(Lib.repeatL [61] m).toArray⟩) = _
  rw [repeat_one]

set_option maxRecDepth 100000 in
set_option maxHeartbeats 1000000 in
theorem encode_long (s : ByteArray) (w : World) (h : 4096 < s.size) : Calls Tryz.prog 28 #[.string s] w fun e w' => e = .returned (.tuple #[.string ⟨#[]⟩, .int .i64 3]) ∧ w' = w := by
  have h1 : (4096 : Int) < s.size := by omega
  go_enter Tryz.func28, Tryz.ntmps28
  go_wp2
  go_ret2
  exact ⟨rfl, rfl⟩

theorem padL_size (q : Nat) : (⟨(padL q).toArray⟩ : ByteArray).size ≤ 4 := by
  rw [Lib.size_mk, padL, List.length_replicate]
  omega
theorem str_back {w : World} {B n : Nat} {v : Value} {l : List UInt8} (h : w.ownsRow B 5 1 v n (cB l)) : (convert 38 9 v).run Tryz.prog w = .ok (.string ⟨l.toArray⟩) w := by
  have hl : n = l.length := by have := h.1; rw [cB_len] at this; omega
  subst hl
  rcases h.2 with ⟨rfl, h0⟩ | ⟨g, cap, cur, rfl, _⟩
  · obtain rfl : l = [] := List.eq_nil_of_length_eq_zero h0
    rw [run_convert_bytes_string w 38 9 5 none 0 0 Tryz.underlying38 Tryz.underlying5 Tryz.underlying9]
    rfl
  · refine run_convert_bytes_back w 38 9 5 ⟨g, 0, none⟩ cap l Tryz.underlying38 Tryz.underlying5 Tryz.underlying9 fun j hj => ?_
    exact h.cells (g := g) rfl j _ (cB_at l j _ (List.getElem?_eq_getElem hj))

/-- what is pending, of how many bits, and the bytes made so far -/
structure MS where
  b : Nat
  k : Nat
  o : List UInt8
def stE (p : MS) (x : UInt8) : MS :=
  if p.k = 0 then ⟨(p.b * 256 + x.toNat) % 4, 2, p.o ++ [ch ((p.b * 256 + x.toNat) / 4)]⟩
  else if p.k = 2 then ⟨(p.b * 256 + x.toNat) % 16, 4, p.o ++ [ch ((p.b * 256 + x.toNat) / 16)]⟩
  else ⟨0, 0, p.o ++ [ch ((p.b * 256 + x.toNat) / 64)] ++ [ch ((p.b * 256 + x.toNat) % 64)]⟩
def OkE (p : MS) : Prop := (p.k = 0 ∧ p.b < 1) ∨ (p.k = 2 ∧ p.b < 4) ∨ (p.k = 4 ∧ p.b < 16)
theorem stE_ok (p : MS) (x : UInt8) (h : OkE p) : OkE (stE p x) := by
  unfold stE OkE
  rcases h with ⟨h, _⟩ | ⟨h, _⟩ | ⟨h, _⟩
  · rw [if_pos h]; right; left; exact ⟨rfl, by show _ % 4 < 4; omega⟩
  · rw [if_neg (by omega), if_pos h]; right; right; exact ⟨rfl, by show _ % 16 < 16; omega⟩
  · rw [if_neg (by omega), if_neg (by omega)]; left; exact ⟨rfl, by show 0 < 1; omega⟩
theorem stE_len (p : MS) (x : UInt8) : (stE p x).o.length ≤ p.o.length + 2 := by
  unfold stE
  split
  · simp
  · split <;> simp
def runE (l : List UInt8) : MS := l.foldl stE ⟨0, 0, []⟩
theorem runE_snoc (l : List UInt8) (k : Nat) (x : UInt8) (h : l[k]? = some x) : runE (l.take (k + 1)) = stE (runE (l.take k)) x := by
  unfold runE
  rw [List.take_add_one, h, Option.toList_some, List.foldl_append]
  rfl
theorem runE_ok (l : List UInt8) : OkE (runE l) := by
  unfold runE
  generalize hp : (⟨0, 0, []⟩ : MS) = p
  have hk : OkE p := by subst hp; left; exact ⟨rfl, by show 0 < 1; omega⟩
  clear hp
  induction l generalizing p with
  | nil => exact hk
  | cons x r ih => exact ih _ (stE_ok p x hk)
theorem runE_len (l : List UInt8) : (runE l).o.length ≤ 2 * l.length := by
  unfold runE
  have : ∀ (l : List UInt8) (p : MS), (l.foldl stE p).o.length ≤ p.o.length + 2 * l.length := by
    intro l
    induction l with
    | nil => intro p; simp
    | cons x r ih =>
      intro p
      have h1 := ih (stE p x)
      have h2 := stE_len p x
      rw [List.foldl_cons, List.length_cons]
      omega
  have := this l ⟨0, 0, []⟩
  simpa using this
def finE (p : MS) : List UInt8 := p.o ++ if p.k = 0 then [] else [ch (p.b * 2 ^ (6 - p.k))]
theorem run_enc (l : List UInt8) (p : MS) (h : OkE p) : finE (l.foldl stE p) = p.o ++ (encV p.b p.k l).map ch := by
  induction l generalizing p with
  | nil =>
    show finE p = _
    unfold finE
    by_cases h0 : p.k = 0
    · rw [if_pos h0, encV, if_pos h0]; rfl
    · rw [if_neg h0, encV, if_neg h0]; rfl
  | cons x r ih =>
    rw [List.foldl_cons, ih _ (stE_ok p x h)]
    have hx := x.toNat_lt
    unfold stE
    rcases h with ⟨hk, hb⟩ | ⟨hk, hb⟩ | ⟨hk, hb⟩
    · rw [if_pos hk, hk, encV0]
      obtain h0 : p.b = 0 := by omega
      simp [h0]
    · rw [if_neg (by omega), if_pos hk, hk, encV2]
      have e1 : (p.b * 256 + x.toNat) % 16 = x.toNat % 16 := by omega
      have e2 : (p.b * 256 + x.toNat) / 16 = p.b * 16 + x.toNat / 16 := by omega
      simp [e1, e2]
    · rw [if_neg (by omega), if_neg (by omega), hk, encV4]
      have e1 : (p.b * 256 + x.toNat) % 64 = x.toNat % 64 := by omega
      have e2 : (p.b * 256 + x.toNat) / 64 = p.b * 4 + x.toNat / 64 := by omega
      simp [e1, e2]
theorem bare_run (l : List UInt8) : finE (runE l) = bareL l := by
  have := run_enc l ⟨0, 0, []⟩ (.inl ⟨rfl, by show 0 < 1; omega⟩)
  exact this

def HpE (base n T : Nat) (p : MS) (w : World) : Prop := Hp (fun _ => False) base n T 8 6 (.func (.func 56) #[] #[.pointer (some ⟨T, 0, none⟩)]) p.b p.k p.o w
theorem putE_any (base n T : Nat) (p : MS) (x : UInt8) (hp : OkE p) (w : World) (h : HpE base n T p w) (hl : p.o.length ≤ 800000) :
    Calls Tryz.prog 82 #[.int .i64 (x.toNat : Int), .pointer (some ⟨n + 3, 0, none⟩), .pointer (some ⟨n, 0, none⟩), .pointer (some ⟨n + 4, 0, none⟩), .pointer (some ⟨n + 1, 0, none⟩), .pointer (some ⟨n + 2, 0, none⟩)] w fun e w' => e = .returned (.tuple #[]) ∧ HpE base n T (stE p x) w' ∧ Below base w w' := by
  have hx : x.toNat < 256 := x.toNat_lt
  obtain ⟨b, k, o⟩ := p
  rcases hp with ⟨hk, hb⟩ | ⟨hk, hb⟩ | ⟨hk, hb⟩
  · obtain rfl : k = 0 := hk
    exact (putE_0 _ base n T b x.toNat o hb hx w h hl).mono fun e w' ⟨h1, h2, h3⟩ => ⟨h1, h2, h3.1⟩
  · obtain rfl : k = 2 := hk
    exact (putE_2 _ base n T b x.toNat o hb hx w h hl).mono fun e w' ⟨h1, h2, h3⟩ => ⟨h1, h2, h3.1⟩
  · obtain rfl : k = 4 := hk
    exact (putE_4 _ base n T b x.toNat o hb hx w h hl).mono fun e w' ⟨h1, h2, h3⟩ => ⟨h1, h2, h3.1⟩

theorem madeCells_size (z : Array Value) (n : Nat) : (madeCells z n).size = n := by simp [madeCells]
theorem start_any (w : World) (m : Nat) (hm : m ≤ 1000000) (fr tt : Int) (f : Nat) :
    Calls Tryz.prog 55 #[.int .i64 fr, .int .i64 tt, .func (.func f) #[] #[.pointer (some ⟨w.heap.size + 1, 0, none⟩)]] ((w.alloc (.cells (madeCells (Value.int .u8 0).cells m) 5)).alloc (.cells #[.slice (some ⟨w.heap.size, 0, none⟩) 0 m] 38)) fun e w' =>
    e = .returned (.tuple #[.func (.func 82) #[] #[.pointer (some ⟨w.heap.size + 2 + 3, 0, none⟩), .pointer (some ⟨w.heap.size + 2, 0, none⟩), .pointer (some ⟨w.heap.size + 2 + 4, 0, none⟩), .pointer (some ⟨w.heap.size + 2 + 1, 0, none⟩), .pointer (some ⟨w.heap.size + 2 + 2, 0, none⟩)], .func (.func 83) #[] #[.pointer (some ⟨w.heap.size + 2 + 3, 0, none⟩), .pointer (some ⟨w.heap.size + 2 + 4, 0, none⟩)]]) ∧
    Hp (fun _ => False) w.heap.size (w.heap.size + 2) (w.heap.size + 1) fr tt (.func (.func f) #[] #[.pointer (some ⟨w.heap.size + 1, 0, none⟩)]) 0 0 [] w' ∧ Below w.heap.size w w' := by
  obtain ⟨W, hW⟩ : ∃ W, W = w.alloc (.cells (madeCells (Value.int .u8 0).cells m) 5) := ⟨_, rfl⟩
  obtain ⟨W1, hW1⟩ : ∃ W1, W1 = W.alloc (.cells #[.slice (some ⟨w.heap.size, 0, none⟩) 0 m] 38) := ⟨_, rfl⟩
  have s1 : W.heap.size = w.heap.size + 1 := by rw [hW, World.size_alloc]
  have s2 : W1.heap.size = w.heap.size + 2 := by rw [hW1, World.size_alloc, s1]
  have hown : W.ownsRow w.heap.size 5 1 (.slice (some ⟨w.heap.size, 0, none⟩) 0 m) 0 [] := by
    rw [hW]; exact World.ownsRow_made w _ m (Nat.le_refl _) (by unfold maxLen; omega) (by rw [madeCells_size, Nat.mul_one])
  have hbT : Box W1 (w.heap.size + 1) [.slice (some ⟨w.heap.size, 0, none⟩) 0 m] := by rw [hW1, ← s1]; exact Box.new W _ _
  have k1 : Below w.heap.size w W := by rw [hW]; exact below_box _ _
  have k2 : Below W.heap.size W W1 := by rw [hW1]; exact below_box _ _
  rw [← hW, ← hW1]
  refine (regroup_any fr tt f ⟨w.heap.size + 1, 0, none⟩ W1).mono ?_
  rintro e w2 ⟨rfl, x0, x1, x2, x3, x4, hb⟩
  rw [s2] at x0 x1 x2 x3 x4 ⊢
  refine ⟨rfl, ⟨by omega, by omega, by omega, fun j hj => hj.elim, x0, x1, x2, x3, x4, _, hbT.keep hb, own_below (own_below hown k2) hb, fun g hg => ?_⟩, up (up k1 k2) hb⟩
  have hg' : w.heap.size = g := by simpa [Value.ownBlock] using hg
  exact ⟨by omega, by omega, id⟩

set_option maxRecDepth 100000 in
set_option maxHeartbeats 4000000 in
theorem encode_any (s : ByteArray) (w : World) (h : s.size ≤ 4096) : Calls Tryz.prog 28 #[.string s] w fun e w' => e = .returned (.tuple #[.string ⟨(encL s.data.toList).toArray⟩, .int .i64 0]) ∧ Below w.heap.size w w' := by
  have h1 : (s.size : Int) ≤ 4096 := by omega
  obtain ⟨m, hm⟩ : ∃ m, m = (s.size + 2) / 3 * 4 := ⟨_, rfl⟩
  have hm1 : m ≤ 5464 := by omega
  have HS := Lib.hid (show sizeI (s.size : Int) = (m : Int) by unfold sizeI; omega)
  clear hm
  obtain ⟨i1, hi1, hy0, hy1, hy2⟩ := info_parts infoB
  have hmk : ∀ W : World, (Instr.makeSlice 38 (.int .i64 0) (.int .i64 (m : Int))).run Tryz.prog W = .ok (.slice (some ⟨W.heap.size, 0, none⟩) 0 m) (W.alloc (.cells (madeCells (Value.int .u8 0).cells m) 5)) := fun W => by
    have := run_makeSlice (P := Tryz.prog) (w := W) 38 5 i1 _ Tryz.underlying38 hi1 hy0 .i64 .i64 0 m (by omega) (by omega) (by rw [hy1]; omega) (by rw [hy2]; omega) (by omega)
    rw [hy1] at this
    simpa using this
  go_enter Tryz.func28, Tryz.ntmps28
  go_wp2_with (first
    | (go_at_call 54; refine (size_any _ _ (by omega)).mono ?_; rintro e w1 ⟨rfl, rfl⟩; rw [HS.out])
    | (go_at_call 55; refine (start_any w1 m (by omega) 8 6 56).mono ?_; rintro e w2 ⟨rfl, hp, hb2⟩; have HP := Lib.hid (show HpE w1.heap.size (w1.heap.size + 2) (w1.heap.size + 1) ⟨0, 0, []⟩ w2 from hp); clear hp))
  have hls : s.data.toList.length = s.size := by simp
  go_loopw [24] (fun i wr => ∃ k : Nat, k ≤ s.size ∧ i = .int .i64 k ∧ Hid (HpE w1.heap.size (w1.heap.size + 2) (w1.heap.size + 1) (runE (s.data.toList.take k)) wr ∧ Below w1.heap.size w1 wr)) (fun i _ => s.size - (intOf i).toNat)
  case atStart => exact ⟨0, by omega, rfl, HP.out, hb2⟩
  case round =>
    clear HP hb2
    obtain ⟨k, hk, rfl, hid⟩ := hrel
    by_cases hk2 : k < s.size
    · obtain ⟨c, hc⟩ : ∃ c, s.data.toList[k]? = some c := ⟨s.data.toList[k]'(by omega), List.getElem?_eq_getElem (by omega)⟩
      have hx := idx_run 9 s k c hc Tryz.underlying9
      have HC := Lib.hid (putE_any _ _ _ (runE (s.data.toList.take k)) c (runE_ok _) wr hid.out.1 (by have := runE_len (s.data.toList.take k); rw [List.length_take] at this; omega))
      have HB := Lib.hid hid.out.2
      have HR := Lib.hid (runE_snoc s.data.toList k c hc)
      have hc1 : (c.toNat : Int) < 256 := by have := c.toNat_lt; omega
      clear hid hc hls
      go_wp2_with (go_at_call 82; refine HC.out.mono ?_; rintro e w3 ⟨rfl, hp3, hb3⟩; rw [← HR.out] at hp3; have HI := Lib.hid (And.intro hp3 (HB.out.trans hb3)); clear hp3 hb3)
      refine ⟨⟨k + 1, by omega, by go_num, HI⟩, ?_⟩
      show s.size - ((k : Int) + 1).toNat < s.size - (k : Int).toNat
      omega
    · obtain rfl : k = s.size := by omega
      have hid2 := hid.out
      rw [List.take_of_length_le (by omega)] at hid2
      have hok := runE_ok s.data.toList
      have hlen := runE_len s.data.toList
      have hfin := bare_run s.data.toList
      clear hid hls
      generalize runE s.data.toList = p at hid2 hok hlen hfin
      obtain ⟨b, k, o⟩ := p
      have hp := hid2.1
      have HB := Lib.hid hid2.2
      have HL := Lib.hid hlen
      have HF := Lib.hid hfin
      clear hid2 hlen hfin
      generalize hT : w1.heap.size + 1 = T at hp ⊢
      generalize hn : w1.heap.size + 2 = n at hp ⊢
      have HTn := Lib.hid (And.intro hT hn)
      clear hT hn
      have HC := Lib.hid (rest_any _ _ _ _ _ _ _ _ _ _ wr hp)
      clear hp
      simp only at HL HC
      rcases hok with ⟨hk0, hb⟩ | ⟨hk0, hb⟩ | ⟨hk0, hb⟩
      · obtain rfl : k = 0 := hk0
        have hb' : b < 1 := hb
        clear hb
        go_wp2_with (go_at_call 83; refine HC.out.mono ?_; rintro e w4 ⟨rfl, hp4, hs4⟩)
        obtain ⟨v, hbT, hown, hof⟩ := hp4.row
        obtain ⟨A, cc, rfl, hcc, -⟩ := own_slice hown
        have hcT' : w4.drew.cell? ⟨T, 0, none⟩ = some (.slice A (o).length cc) := hbT.cell 0 _ rfl
        have hcv := str_back (w := w4.drew) hown.drew
        have HS4 := Lib.hid (HB.out.trans hs4.1).drew
        have hq : (o).length ≤ 8193 := by
          have := HL.out
          simp at this
          simp
          omega
        obtain ⟨S, hS⟩ : ∃ S : ByteArray, S = ⟨(o).toArray⟩ := ⟨_, rfl⟩
        rw [← hS] at hcv
        have hSz : S.size = (o).length := by rw [hS, Lib.size_mk]
        have HSS := Lib.hid hS
        have HOw := Lib.hid (hown.drew)
        have HBT := Lib.hid hbT.drew
        obtain ⟨q, hqe⟩ : ∃ q, q = (o).length := ⟨_, rfl⟩
        rw [← hqe] at hcv hcT' hq hSz hcc HOw HBT
        have HQ := Lib.hid hqe
        clear hp4 hs4 hown hof hbT hS hqe
        go_region_held3 (fun W => W.cell? ⟨T, 0, none⟩ = some (.slice A q cc) ∧ (convert 38 9 (.slice A q cc)).run Tryz.prog W = .ok (.string S) W) (first | (with_reducible exact ⟨hcT', hcv⟩) | (with_reducible exact ⟨hcT5, hcv5⟩)) ((go_at_call 57; refine (padding_any q (by omega) _).mono ?_; rintro e w5 ⟨rfl, hb5⟩; have hcv5 := str_back (own_below HOw.out hb5); rw [← HSS.out] at hcv5; have hcT5 := (HBT.out.keep hb5).cell 0 _ rfl; obtain ⟨R, hR⟩ : ∃ R : ByteArray, R = ⟨(padL q).toArray⟩ := ⟨_, rfl⟩; rw [← hR]; have hRz : R.size ≤ 4 := (by rw [hR]; exact padL_size q); have hl9 : ¬ 9223372036854775807 < q + R.size := (by omega); have HR := Lib.hid hR; clear hR))
        rename_i K5 hK5 x5
        show K5 _ _
        refine hK5 _ _ ?_
        clear hK5
        go_wp2
        go_ret2
        refine ⟨?_, HS4.out.trans (hb5.mono HS4.out.size)⟩
        have e1 : o = bareL s.data.toList := by have h9 := HF.out; rw [← h9]; simp [finE]
        rw [HSS.out, HR.out, HQ.out, e1]
        exact congrArg (fun x => Ending.returned (.tuple #[.string x, .int .i64 0])) (by rw [encL]; rfl)
      · obtain rfl : k = 2 := hk0
        have hb' : b < 4 := hb
        clear hb
        obtain ⟨v1, hv1⟩ : ∃ v : Nat, v = b * 16 := ⟨_, rfl⟩
        have hv2 : (b : Int) * 16 = (v1 : Int) := by omega
        have hv3 : v1 < 64 := by omega
        have HV := Lib.hid hv1
        clear hv1
        have har := alpha_run v1 hv3
        have hw4 : IntKind.i64.wrap 4 = 4 := by decide
        have hv4 : (0 : Int) ≤ v1 := by omega
        have hv5 : (v1 : Int) < 64 := by omega
        have hw5 : IntKind.i64.wrap (v1 : Int) = v1 := IntWalk.i64_in _ (by omega)
        go_wp2_with (go_at_call 83; refine HC.out.mono ?_; rintro e w4 ⟨rfl, hp4, hs4⟩; have HP4 := Lib.hid hp4; have HS0 := Lib.hid hs4.1; clear hp4 hs4)
        obtain ⟨r, hbox, hown, hof⟩ := HP4.out.row
        have hcT : w4.cell? ⟨T, 0, none⟩ = some r := hbox.cell 0 _ rfl
        have hTf : w4.frozen? ⟨T, 0, none⟩ = false := hbox.free 0 (by show 0 < 1; decide)
        have hlt := hbox.1
        have hbs : w1.heap.size ≤ w4.heap.size := Nat.le_trans HB.out.size HS0.out.size
        have HP := Lib.hid (show ∀ W v' c, W.ownsRow w1.heap.size 5 1 v' (o.length + 1) (cB (o ++ [c])) → w4.grownBy W r.ownBlock → (v'.ownBlock = r.ownBlock ∨ ∃ g, v'.ownBlock = some g ∧ w4.heap.size ≤ g) → _ from fun W v' c h1 h2 h3 => HP4.out.pushed hbox hof hown h1 h2 h3)
        have HO := Lib.hid hown
        have HN := Lib.hid (show r.ownBlock ≠ some T from fun e => (hof T e).1 rfl)
        have HBX := Lib.hid hbox
        have hm9 : o.length ≤ 900000 := by have := HL.out; simp at this; omega
        clear HP4 hof hown hbox
        have HOL := Lib.hid HL.out
        obtain ⟨m9, hm9'⟩ : ∃ m9, m9 = o.length := ⟨_, rfl⟩
        rw [← hm9'] at HP HO hm9
        clear hm9'
        obtain ⟨c9, hc9⟩ : ∃ c9, c9 = ch v1 := ⟨_, rfl⟩
        rw [← hc9] at har
        have HC9 := Lib.hid hc9
        clear hc9
        go_region_law (refine step_appO _ rfl (.tmp 41) (.tmp 47) 38 rfl w1.heap.size 5 i1 _ 1 Tryz.underlying38 hi1 hy0 hy1 hy2 rfl r m9 (cB o) (by simp [Act.eval]) (((HO.out).alloc (.cells #[.int .u8 (c9.toNat : Int)] 5)).drew) (some ⟨w4.heap.size, 0, none⟩) 1 1 [.int .u8 (c9.toNat : Int)] (by simp [Act.eval]) rfl ((Rd.one w4 (.int .u8 (c9.toNat : Int)) 5).below ((Below.refl _ _).drew)) (by intro u hu; simp at hu; subst hu; rfl) (by omega) (by decide) (by simp; omega) ?_; intro v' w6 hown1 hgrow hob; obtain ⟨gg, cap, rfl, -⟩ := hown1.form (by omega); have hb1 := ((HBX.out.alloc _).drew).grown hgrow (Ne.symm HN.out); have y1 := hb1.cell 0 _ rfl; have z1 := hb1.free 0 (by show 0 < 1; decide); clear hb1)
        all_goals
          rename_i K4 hK4
          show K4 _ _
          refine hK4 _ _ ?_
          clear hK4 har hcT hTf y1 z1 hw4 hw5
          rw [cB_snoc] at hown1
          obtain ⟨hp7, hs7⟩ := HP.out w6 _ c9 hown1 (grown_new hgrow) (hob.imp id fun e => ⟨_, e, by simp⟩)
          clear hown1 hgrow hob HP HO HN HBX
          generalize World.setCell w6 _ _ = w7 at hp7 hs7 ⊢
          go_wp2_with fail
          obtain ⟨v, hbT, hown, hof⟩ := hp7.row
          obtain ⟨A, cc, rfl, hcc, -⟩ := own_slice hown
          have hcT' : w7.drew.cell? ⟨T, 0, none⟩ = some (.slice A (o ++ [c9]).length cc) := hbT.cell 0 _ rfl
          have hcv := str_back (w := w7.drew) hown.drew
          have HS4 := Lib.hid ((HB.out.trans HS0.out).trans hs7.1).drew
          have hq : (o ++ [c9]).length ≤ 8193 := by
            have := HL.out
            simp at this
            simp
            omega
          obtain ⟨S, hS⟩ : ∃ S : ByteArray, S = ⟨(o ++ [c9]).toArray⟩ := ⟨_, rfl⟩
          rw [← hS] at hcv
          have hSz : S.size = (o ++ [c9]).length := by rw [hS, Lib.size_mk]
          have HSS := Lib.hid hS
          have HOw := Lib.hid (hown.drew)
          have HBT := Lib.hid hbT.drew
          obtain ⟨q, hqe⟩ : ∃ q, q = (o ++ [c9]).length := ⟨_, rfl⟩
          rw [← hqe] at hcv hcT' hq hSz hcc HOw HBT
          have HQ := Lib.hid hqe
          clear hp7 hs7 hown hof hbT hS hqe
          go_region_held3 (fun W => W.cell? ⟨T, 0, none⟩ = some (.slice A q cc) ∧ (convert 38 9 (.slice A q cc)).run Tryz.prog W = .ok (.string S) W) (first | (with_reducible exact ⟨hcT', hcv⟩) | (with_reducible exact ⟨hcT5, hcv5⟩)) ((go_at_call 57; refine (padding_any q (by omega) _).mono ?_; rintro e w5 ⟨rfl, hb5⟩; have hcv5 := str_back (own_below HOw.out hb5); rw [← HSS.out] at hcv5; have hcT5 := (HBT.out.keep hb5).cell 0 _ rfl; obtain ⟨R, hR⟩ : ∃ R : ByteArray, R = ⟨(padL q).toArray⟩ := ⟨_, rfl⟩; rw [← hR]; have hRz : R.size ≤ 4 := (by rw [hR]; exact padL_size q); have hl9 : ¬ 9223372036854775807 < q + R.size := (by omega); have HR := Lib.hid hR; clear hR))
          rename_i K5 hK5 x5
          show K5 _ _
          refine hK5 _ _ ?_
          clear hK5
          go_wp2
          go_ret2
          refine ⟨?_, HS4.out.trans (hb5.mono HS4.out.size)⟩
          have e1 : o ++ [c9] = bareL s.data.toList := by have h9 := HF.out; rw [← h9, HC9.out, HV.out]; simp [finE]
          rw [HSS.out, HR.out, HQ.out, e1]
          exact congrArg (fun x => Ending.returned (.tuple #[.string x, .int .i64 0])) (by rw [encL]; rfl)
      · obtain rfl : k = 4 := hk0
        have hb' : b < 16 := hb
        clear hb
        obtain ⟨v1, hv1⟩ : ∃ v : Nat, v = b * 4 := ⟨_, rfl⟩
        have hv2 : (b : Int) * 4 = (v1 : Int) := by omega
        have hv3 : v1 < 64 := by omega
        have HV := Lib.hid hv1
        clear hv1
        have har := alpha_run v1 hv3
        have hw4 : IntKind.i64.wrap 2 = 2 := by decide
        have hv4 : (0 : Int) ≤ v1 := by omega
        have hv5 : (v1 : Int) < 64 := by omega
        have hw5 : IntKind.i64.wrap (v1 : Int) = v1 := IntWalk.i64_in _ (by omega)
        go_wp2_with (go_at_call 83; refine HC.out.mono ?_; rintro e w4 ⟨rfl, hp4, hs4⟩; have HP4 := Lib.hid hp4; have HS0 := Lib.hid hs4.1; clear hp4 hs4)
        obtain ⟨r, hbox, hown, hof⟩ := HP4.out.row
        have hcT : w4.cell? ⟨T, 0, none⟩ = some r := hbox.cell 0 _ rfl
        have hTf : w4.frozen? ⟨T, 0, none⟩ = false := hbox.free 0 (by show 0 < 1; decide)
        have hlt := hbox.1
        have hbs : w1.heap.size ≤ w4.heap.size := Nat.le_trans HB.out.size HS0.out.size
        have HP := Lib.hid (show ∀ W v' c, W.ownsRow w1.heap.size 5 1 v' (o.length + 1) (cB (o ++ [c])) → w4.grownBy W r.ownBlock → (v'.ownBlock = r.ownBlock ∨ ∃ g, v'.ownBlock = some g ∧ w4.heap.size ≤ g) → _ from fun W v' c h1 h2 h3 => HP4.out.pushed hbox hof hown h1 h2 h3)
        have HO := Lib.hid hown
        have HN := Lib.hid (show r.ownBlock ≠ some T from fun e => (hof T e).1 rfl)
        have HBX := Lib.hid hbox
        have hm9 : o.length ≤ 900000 := by have := HL.out; simp at this; omega
        clear HP4 hof hown hbox
        have HOL := Lib.hid HL.out
        obtain ⟨m9, hm9'⟩ : ∃ m9, m9 = o.length := ⟨_, rfl⟩
        rw [← hm9'] at HP HO hm9
        clear hm9'
        obtain ⟨c9, hc9⟩ : ∃ c9, c9 = ch v1 := ⟨_, rfl⟩
        rw [← hc9] at har
        have HC9 := Lib.hid hc9
        clear hc9
        go_region_law (refine step_appO _ rfl (.tmp 41) (.tmp 47) 38 rfl w1.heap.size 5 i1 _ 1 Tryz.underlying38 hi1 hy0 hy1 hy2 rfl r m9 (cB o) (by simp [Act.eval]) (((HO.out).alloc (.cells #[.int .u8 (c9.toNat : Int)] 5)).drew) (some ⟨w4.heap.size, 0, none⟩) 1 1 [.int .u8 (c9.toNat : Int)] (by simp [Act.eval]) rfl ((Rd.one w4 (.int .u8 (c9.toNat : Int)) 5).below ((Below.refl _ _).drew)) (by intro u hu; simp at hu; subst hu; rfl) (by omega) (by decide) (by simp; omega) ?_; intro v' w6 hown1 hgrow hob; obtain ⟨gg, cap, rfl, -⟩ := hown1.form (by omega); have hb1 := ((HBX.out.alloc _).drew).grown hgrow (Ne.symm HN.out); have y1 := hb1.cell 0 _ rfl; have z1 := hb1.free 0 (by show 0 < 1; decide); clear hb1)
        all_goals
          rename_i K4 hK4
          show K4 _ _
          refine hK4 _ _ ?_
          clear hK4 har hcT hTf y1 z1 hw4 hw5
          rw [cB_snoc] at hown1
          obtain ⟨hp7, hs7⟩ := HP.out w6 _ c9 hown1 (grown_new hgrow) (hob.imp id fun e => ⟨_, e, by simp⟩)
          clear hown1 hgrow hob HP HO HN HBX
          generalize World.setCell w6 _ _ = w7 at hp7 hs7 ⊢
          go_wp2_with fail
          obtain ⟨v, hbT, hown, hof⟩ := hp7.row
          obtain ⟨A, cc, rfl, hcc, -⟩ := own_slice hown
          have hcT' : w7.drew.cell? ⟨T, 0, none⟩ = some (.slice A (o ++ [c9]).length cc) := hbT.cell 0 _ rfl
          have hcv := str_back (w := w7.drew) hown.drew
          have HS4 := Lib.hid ((HB.out.trans HS0.out).trans hs7.1).drew
          have hq : (o ++ [c9]).length ≤ 8193 := by
            have := HL.out
            simp at this
            simp
            omega
          obtain ⟨S, hS⟩ : ∃ S : ByteArray, S = ⟨(o ++ [c9]).toArray⟩ := ⟨_, rfl⟩
          rw [← hS] at hcv
          have hSz : S.size = (o ++ [c9]).length := by rw [hS, Lib.size_mk]
          have HSS := Lib.hid hS
          have HOw := Lib.hid (hown.drew)
          have HBT := Lib.hid hbT.drew
          obtain ⟨q, hqe⟩ : ∃ q, q = (o ++ [c9]).length := ⟨_, rfl⟩
          rw [← hqe] at hcv hcT' hq hSz hcc HOw HBT
          have HQ := Lib.hid hqe
          clear hp7 hs7 hown hof hbT hS hqe
          go_region_held3 (fun W => W.cell? ⟨T, 0, none⟩ = some (.slice A q cc) ∧ (convert 38 9 (.slice A q cc)).run Tryz.prog W = .ok (.string S) W) (first | (with_reducible exact ⟨hcT', hcv⟩) | (with_reducible exact ⟨hcT5, hcv5⟩)) ((go_at_call 57; refine (padding_any q (by omega) _).mono ?_; rintro e w5 ⟨rfl, hb5⟩; have hcv5 := str_back (own_below HOw.out hb5); rw [← HSS.out] at hcv5; have hcT5 := (HBT.out.keep hb5).cell 0 _ rfl; obtain ⟨R, hR⟩ : ∃ R : ByteArray, R = ⟨(padL q).toArray⟩ := ⟨_, rfl⟩; rw [← hR]; have hRz : R.size ≤ 4 := (by rw [hR]; exact padL_size q); have hl9 : ¬ 9223372036854775807 < q + R.size := (by omega); have HR := Lib.hid hR; clear hR))
          rename_i K5 hK5 x5
          show K5 _ _
          refine hK5 _ _ ?_
          clear hK5
          go_wp2
          go_ret2
          refine ⟨?_, HS4.out.trans (hb5.mono HS4.out.size)⟩
          have e1 : o ++ [c9] = bareL s.data.toList := by have h9 := HF.out; rw [← h9, HC9.out, HV.out]; simp [finE]
          rw [HSS.out, HR.out, HQ.out, e1]
          exact congrArg (fun x => Ending.returned (.tuple #[.string x, .int .i64 0])) (by rw [encL]; rfl)
end Go.Proofs.YtoilcigmpeaedaaGreatDoor.B64

namespace Go.Proofs.YtoilcigmpeaedaaGreatDoor.B64
open Go.RowKit Utf

def stD (p : MS) (v : Nat) : MS :=
  if p.k = 0 then ⟨p.b * 64 + v, 6, p.o⟩
  else if p.k = 6 then ⟨(p.b * 64 + v) % 16, 4, p.o ++ [byt ((p.b * 64 + v) / 16)]⟩
  else if p.k = 4 then ⟨(p.b * 64 + v) % 4, 2, p.o ++ [byt ((p.b * 64 + v) / 4)]⟩
  else ⟨0, 0, p.o ++ [byt (p.b * 64 + v)]⟩
def OkD (p : MS) : Prop := (p.k = 0 ∧ p.b < 1) ∨ (p.k = 6 ∧ p.b < 64) ∨ (p.k = 4 ∧ p.b < 16) ∨ (p.k = 2 ∧ p.b < 4)
theorem stD_ok (p : MS) (v : Nat) (hv : v < 64) (h : OkD p) : OkD (stD p v) := by
  unfold stD OkD
  rcases h with ⟨h, hb⟩ | ⟨h, hb⟩ | ⟨h, hb⟩ | ⟨h, hb⟩
  · rw [if_pos h]; right; left; exact ⟨rfl, by show p.b * 64 + v < 64; omega⟩
  · rw [if_neg (by omega), if_pos h]; right; right; left; exact ⟨rfl, by show _ % 16 < 16; omega⟩
  · rw [if_neg (by omega), if_neg (by omega), if_pos h]; right; right; right; exact ⟨rfl, by show _ % 4 < 4; omega⟩
  · rw [if_neg (by omega), if_neg (by omega), if_neg (by omega)]; left; exact ⟨rfl, by show 0 < 1; omega⟩
theorem stD_len (p : MS) (v : Nat) : (stD p v).o.length ≤ p.o.length + 1 := by
  unfold stD
  split
  · simp
  · split
    · simp
    · split <;> simp
def runD (vs : List Nat) : MS := vs.foldl stD ⟨0, 0, []⟩
theorem runD_snoc (vs : List Nat) (v : Nat) : runD (vs ++ [v]) = stD (runD vs) v := by
  unfold runD
  rw [List.foldl_append]
  rfl
theorem runD_ok (vs : List Nat) (h : ∀ v ∈ vs, v < 64) : OkD (runD vs) := by
  unfold runD
  generalize hp : (⟨0, 0, []⟩ : MS) = p
  have hk : OkD p := by subst hp; left; exact ⟨rfl, by show 0 < 1; omega⟩
  clear hp
  induction vs generalizing p with
  | nil => exact hk
  | cons x r ih => exact ih (fun v hv => h v (by simp [hv])) _ (stD_ok p x (h x (by simp)) hk)
theorem runD_len (vs : List Nat) : (runD vs).o.length ≤ vs.length := by
  unfold runD
  have : ∀ (l : List Nat) (p : MS), (l.foldl stD p).o.length ≤ p.o.length + l.length := by
    intro l
    induction l with
    | nil => intro p; simp
    | cons x r ih =>
      intro p
      have h1 := ih (stD p x)
      have h2 := stD_len p x
      rw [List.foldl_cons, List.length_cons]
      omega
  have := this vs ⟨0, 0, []⟩
  simpa using this
theorem run_dec (vs : List Nat) (hv : ∀ v ∈ vs, v < 64) (p : MS) (h : OkD p) : (vs.foldl stD p).o = p.o ++ decV p.b p.k vs ∧ ((vs.foldl stD p).b, (vs.foldl stD p).k) = decE p.b p.k vs := by
  induction vs generalizing p with
  | nil => exact ⟨by rw [decV, List.append_nil]; rfl, rfl⟩
  | cons v r ih =>
    have hv1 := hv v (by simp)
    obtain ⟨h1, h2⟩ := ih (fun u hu => hv u (by simp [hu])) _ (stD_ok p v hv1 h)
    rw [List.foldl_cons, h1, h2]
    rcases h with ⟨hk, hb⟩ | ⟨hk, hb⟩ | ⟨hk, hb⟩ | ⟨hk, hb⟩
    · have h0 : p.b = 0 := by omega
      have e : stD p v = ⟨v, 6, p.o⟩ := by unfold stD; rw [if_pos hk, h0]; simp
      rw [e, hk]
      simp [decV, decE]
    · have e1 : (p.b * 64 + v) % 16 = v % 16 := by omega
      have e2 : (p.b * 64 + v) / 16 = p.b * 4 + v / 16 := by omega
      have e : stD p v = ⟨v % 16, 4, p.o ++ [byt (p.b * 4 + v / 16)]⟩ := by unfold stD; rw [if_neg (by omega), if_pos hk, e1, e2]
      rw [e, hk]
      simp [decV, decE]
    · have e1 : (p.b * 64 + v) % 4 = v % 4 := by omega
      have e2 : (p.b * 64 + v) / 4 = p.b * 16 + v / 4 := by omega
      have e : stD p v = ⟨v % 4, 2, p.o ++ [byt (p.b * 16 + v / 4)]⟩ := by unfold stD; rw [if_neg (by omega), if_neg (by omega), if_pos hk, e1, e2]
      rw [e, hk]
      simp [decV, decE]
    · have e : stD p v = ⟨0, 0, p.o ++ [byt (p.b * 64 + v)]⟩ := by unfold stD; rw [if_neg (by omega), if_neg (by omega), if_neg (by omega)]
      rw [e, hk]
      simp [decV, decE]
theorem dec_run (vs : List Nat) (hv : ∀ v ∈ vs, v < 64) : (runD vs).o = decV 0 0 vs ∧ okE (decE 0 0 vs) = (decide ((runD vs).k < 6) && decide ((runD vs).b = 0)) := by
  obtain ⟨h1, h2⟩ := run_dec vs hv ⟨0, 0, []⟩ (.inl ⟨rfl, by show 0 < 1; omega⟩)
  refine ⟨by rw [show runD vs = vs.foldl stD ⟨0, 0, []⟩ from rfl, h1]; simp, ?_⟩
  rw [← h2]
  rfl
theorem vals_snoc (l : List UInt8) (c : UInt8) (vs : List Nat) (v : Nat) (h : valsL l = some vs) (hc : vl c = some v) : valsL (l ++ [c]) = some (vs ++ [v]) := by
  induction l generalizing vs with
  | nil => cases h; simp [valsL, hc]
  | cons x r ih =>
    rw [valsL] at h
    split at h
    · rename_i u us hu hus
      cases h
      rw [List.cons_append, valsL, hu, ih us hus]
      rfl
    · cases h
theorem vals_stop (l : List UInt8) (c : UInt8) (r : List UInt8) (hc : vl c = none) : valsL (l ++ c :: r) = none := by
  induction l with
  | nil => simp [valsL, hc]
  | cons x l ih =>
    rw [List.cons_append, valsL, ih]
    cases vl x <;> rfl
theorem vals_len (l : List UInt8) (vs : List Nat) (h : valsL l = some vs) : vs.length = l.length := by
  induction l generalizing vs with
  | nil => cases h; rfl
  | cons x r ih =>
    rw [valsL] at h
    split at h
    · rename_i u us hu hus
      cases h
      rw [List.length_cons, List.length_cons, ih us hus]
    · cases h
theorem trim_len (l : List UInt8) : (trimL l).length ≤ l.length := by
  unfold trimL Lib.trimRightB
  rw [List.length_reverse]
  have := (List.dropWhile_sublist (· == (61 : UInt8)) (l := l.reverse)).length_le
  rw [List.length_reverse] at this
  exact this

/-- what Decode answers -/
def decV' (l : List UInt8) : Value := match decL l with
  | some x => .tuple #[.string ⟨x.toArray⟩, .int .i64 0]
  | none => .tuple #[.string ⟨#[]⟩, .int .i64 6]
theorem decV_none (l : List UInt8) (h : decL l = none) : decV' l = .tuple #[.string ⟨#[]⟩, .int .i64 6] := by rw [decV', h]
theorem decV_some (l x : List UInt8) (h : decL l = some x) : decV' l = .tuple #[.string ⟨x.toArray⟩, .int .i64 0] := by rw [decV', h]

def HpD (X : Nat → Prop) (base n T : Nat) (p : MS) (w : World) : Prop := Hp X base n T 6 8 (.func (.func 90) #[] #[.pointer (some ⟨T, 0, none⟩)]) p.b p.k p.o w
theorem putD_any (X : Nat → Prop) (base n T : Nat) (p : MS) (v : Nat) (hv : v < 64) (hp : OkD p) (w : World) (h : HpD X base n T p w) (hl : p.o.length ≤ 800000) :
    Calls Tryz.prog 82 #[.int .i64 (v : Int), .pointer (some ⟨n + 3, 0, none⟩), .pointer (some ⟨n, 0, none⟩), .pointer (some ⟨n + 4, 0, none⟩), .pointer (some ⟨n + 1, 0, none⟩), .pointer (some ⟨n + 2, 0, none⟩)] w fun e w' => e = .returned (.tuple #[]) ∧ HpD X base n T (stD p v) w' ∧ Stay X base w w' := by
  obtain ⟨b, k, o⟩ := p
  rcases hp with ⟨hk, hb⟩ | ⟨hk, hb⟩ | ⟨hk, hb⟩ | ⟨hk, hb⟩
  · obtain rfl : k = 0 := hk
    exact putD_0 X base n T b v o hb hv w h hl
  · obtain rfl : k = 6 := hk
    exact putD_6 X base n T b v o hb hv w h hl
  · obtain rfl : k = 4 := hk
    exact putD_4 X base n T b v o hb hv w h hl
  · obtain rfl : k = 2 := hk
    exact putD_2 X base n T b v o hb hv w h hl

set_option maxRecDepth 100000 in
set_option maxHeartbeats 1000000 in
theorem decode_long (s : ByteArray) (w : World) (h : 8192 < s.size) : Calls Tryz.prog 69 #[.string s] w fun e w' => e = .returned (.tuple #[.string ⟨#[]⟩, .int .i64 3]) ∧ w' = w := by
  have h1 : (8192 : Int) < s.size := by omega
  go_enter Tryz.func69, Tryz.ntmps69
  go_wp2
  go_ret2
  exact ⟨rfl, rfl⟩

theorem ba_ne {a b : ByteArray} (h : a.data.toList ≠ b.data.toList) : (a.toList == b.toList) = false := by
  have : a.toList ≠ b.toList := fun e => h (by rw [ByteArray.toList_eq, ByteArray.toList_eq] at e; rw [e])
  simp [this]
theorem ba_eq {a b : ByteArray} (h : a.data.toList = b.data.toList) : a = b := ByteArray.ext (Array.ext' h)
theorem app_ba (a b : List UInt8) : (⟨a.toArray⟩ : ByteArray) ++ (⟨b.toArray⟩ : ByteArray) = ⟨(a ++ b).toArray⟩ := by
  refine ba_eq ?_
  simp

set_option maxRecDepth 100000 in
set_option maxHeartbeats 4000000 in
theorem decode_bad (s : ByteArray) (w : World) (h : s.size ≤ 8192) (hne : s.data.toList ≠ trimL s.data.toList) (hne2 : s.data.toList ≠ trimL s.data.toList ++ padL (trimL s.data.toList).length) : Calls Tryz.prog 69 #[.string s] w fun e w' => e = .returned (decV' s.data.toList) ∧ Below w.heap.size w w' := by
  rw [decV_none _ (by unfold decL; simp only; rw [if_pos ⟨hne, hne2⟩])]
  have h1 : (s.size : Int) ≤ 8192 := by omega
  have hlt := trim_len s.data.toList
  simp only [Array.length_toList] at hlt
  obtain ⟨P, hP⟩ : ∃ P : ByteArray, P = ⟨(trimL s.data.toList).toArray⟩ := ⟨_, rfl⟩
  obtain ⟨R, hR⟩ : ∃ R : ByteArray, R = ⟨(padL (trimL s.data.toList).length).toArray⟩ := ⟨_, rfl⟩
  have hPz : P.size = (trimL s.data.toList).length := by rw [hP, Lib.size_mk]
  have hPz2 : P.size ≤ 8192 := by rw [hPz]; exact Nat.le_trans hlt h
  have hRz : R.size ≤ 4 := by rw [hR]; exact padL_size _
  have HT := Lib.hid (fun W => Tryz.strings_TrimRight_one s 61 (by decide) W (by omega))
  have HP := Lib.hid (show (⟨(Lib.trimRightB s.data.toList 61).toArray⟩ : ByteArray) = P from hP.symm)
  have HR := Lib.hid (fun W => padding_any P.size (by omega) W)
  have HR2 := Lib.hid (show (⟨(padL P.size).toArray⟩ : ByteArray) = R by rw [hR, hPz])
  have q1 : (s.toList == P.toList) = false := ba_ne (by rw [hP]; simpa using hne)
  have q2 : (s.toList == (P ++ R).toList) = false := ba_ne (by rw [hP, hR, app_ba]; simpa using hne2)
  have hl9 : ¬ 9223372036854775807 < P.size + R.size := by omega
  clear hne hne2 hP hR hPz hlt
  go_enter Tryz.func69, Tryz.ntmps69
  go_wp2_with (first
    | (go_at_call 89; refine (HT.out _).mono ?_; rintro e w1 ⟨rfl, rfl⟩; rw [HP.out])
    | (go_at_call 57; refine (HR.out _).mono ?_; rintro e w2 ⟨rfl, hb2⟩; rw [HR2.out]))
  go_ret2
  exact ⟨rfl, hb2⟩
theorem decL_pad (l : List UInt8) (h : l = trimL l ∨ l = trimL l ++ padL (trimL l).length) : (valsL (trimL l) = none → decL l = none) ∧ (∀ vs, valsL (trimL l) = some vs → okE (decE 0 0 vs) = false → decL l = none) ∧ (∀ vs, valsL (trimL l) = some vs → okE (decE 0 0 vs) = true → decL l = some (decV 0 0 vs)) := by
  have hn : ¬ (l ≠ trimL l ∧ l ≠ trimL l ++ padL (trimL l).length) := fun e => h.elim e.1 e.2
  unfold decL
  simp only
  rw [if_neg hn]
  refine ⟨fun e => by rw [e], fun vs e1 e2 => ?_, fun vs e1 e2 => ?_⟩
  · rw [e1]; simp [e2]
  · rw [e1]; simp [e2]
theorem startD_any (w : World) (fr tt : Int) (f : Nat) :
    Calls Tryz.prog 55 #[.int .i64 fr, .int .i64 tt, .func (.func f) #[] #[.pointer (some ⟨w.heap.size, 0, none⟩)]] (w.alloc (.cells #[.slice none 0 0] 38)) fun e w' =>
    e = .returned (.tuple #[.func (.func 82) #[] #[.pointer (some ⟨w.heap.size + 1 + 3, 0, none⟩), .pointer (some ⟨w.heap.size + 1, 0, none⟩), .pointer (some ⟨w.heap.size + 1 + 4, 0, none⟩), .pointer (some ⟨w.heap.size + 1 + 1, 0, none⟩), .pointer (some ⟨w.heap.size + 1 + 2, 0, none⟩)], .func (.func 83) #[] #[.pointer (some ⟨w.heap.size + 1 + 3, 0, none⟩), .pointer (some ⟨w.heap.size + 1 + 4, 0, none⟩)]]) ∧
    Hp (fun _ => False) w.heap.size (w.heap.size + 1) w.heap.size fr tt (.func (.func f) #[] #[.pointer (some ⟨w.heap.size, 0, none⟩)]) 0 0 [] w' ∧ Below w.heap.size w w' := by
  obtain ⟨W1, hW1⟩ : ∃ W1, W1 = w.alloc (.cells #[.slice none 0 0] 38) := ⟨_, rfl⟩
  have s2 : W1.heap.size = w.heap.size + 1 := by rw [hW1, World.size_alloc]
  have hbT : Box W1 w.heap.size [.slice none 0 0] := by rw [hW1]; exact Box.new w _ _
  have k2 : Below w.heap.size w W1 := by rw [hW1]; exact below_box _ _
  rw [← hW1]
  refine (regroup_any fr tt f ⟨w.heap.size, 0, none⟩ W1).mono ?_
  rintro e w2 ⟨rfl, x0, x1, x2, x3, x4, hb⟩
  rw [s2] at x0 x1 x2 x3 x4 ⊢
  exact ⟨rfl, ⟨by omega, by omega, by omega, fun j hj => hj.elim, x0, x1, x2, x3, x4, _, hbT.keep hb, World.ownsRow_nil _ _ _ _, fun g hg => by simp [Value.ownBlock] at hg⟩, up k2 hb⟩
theorem Hp.mapped {base n T : Nat} {fr tt : Int} {use : Value} {b k : Int} {xs : List UInt8} {w : World} (h : Hp (fun _ => False) base n T fr tt use b k xs w) :
    Hp (fun j => j = w.heap.size) base n T fr tt use b k xs (w.alloc (mapE 64)) ∧ (w.alloc (mapE 64)).heap[w.heap.size]? = some (mapE 64) ∧ Below base w (w.alloc (mapE 64)) := by
  have h4 := h.b4.1
  obtain ⟨v, hT, hown, hof⟩ := h.row
  have hk := below_box w (mapE 64)
  have hTl := hT.1
  refine ⟨⟨h.hT, h.hn, h.hTn, fun j hj => ?_, h.b0.keep hk, h.b1.keep hk, h.b2.keep hk, h.b3.keep hk, h.b4.keep hk, v, hT.keep hk, own_below hown hk, fun g hg => ⟨(hof g hg).1, (hof g hg).2.1, ?_⟩⟩, heap_alloc_new w _, hk.mono (by have := h.hn; omega)⟩
  · subst hj
    exact ⟨by simp, by omega, by omega⟩
  · have := (hown.lt g hg).2
    show ¬ g = w.heap.size
    omega

set_option maxRecDepth 100000 in
set_option maxHeartbeats 4000000 in
theorem decode_pad (s : ByteArray) (w : World) (h : s.size ≤ 8192) (hne : s.data.toList ≠ trimL s.data.toList) (hne2 : s.data.toList = trimL s.data.toList ++ padL (trimL s.data.toList).length) : Calls Tryz.prog 69 #[.string s] w fun e w' => e = .returned (decV' s.data.toList) ∧ Below w.heap.size w w' := by
  obtain ⟨hd1', hd2', hd3'⟩ := decL_pad s.data.toList (.inr hne2)
  have h1 : (s.size : Int) ≤ 8192 := by omega
  have hlt := trim_len s.data.toList
  simp only [Array.length_toList] at hlt
  obtain ⟨P, hP⟩ : ∃ P : ByteArray, P = ⟨(trimL s.data.toList).toArray⟩ := ⟨_, rfl⟩
  have hPl : P.data.toList = trimL s.data.toList := by rw [hP]
  have hPz : P.size = (trimL s.data.toList).length := by rw [hP, Lib.size_mk]
  have hPz2 : P.size ≤ 8192 := by rw [hPz]; exact Nat.le_trans hlt h
  have HT := Lib.hid (fun W => Tryz.strings_TrimRight_one s 61 (by decide) W (by omega))
  have HP := Lib.hid (show (⟨(Lib.trimRightB s.data.toList 61).toArray⟩ : ByteArray) = P from hP.symm)
  obtain ⟨R, hR⟩ : ∃ R : ByteArray, R = ⟨(padL (trimL s.data.toList).length).toArray⟩ := ⟨_, rfl⟩
  have hRz : R.size ≤ 4 := by rw [hR]; exact padL_size _
  have HR := Lib.hid (fun W => padding_any P.size (by omega) W)
  have HR2 := Lib.hid (show (⟨(padL P.size).toArray⟩ : ByteArray) = R by rw [hR, hPz])
  have q1 : (s.toList == P.toList) = false := ba_ne (by rw [hPl]; exact hne)
  have q2 : (s.toList == (P ++ R).toList) = true := by
    have e : s = P ++ R := ba_eq (by rw [hP, hR, app_ba]; exact hne2)
    rw [← e]; simp
  have hl9 : ¬ 9223372036854775807 < P.size + R.size := by omega
  clear hR hne2
  have hd1 : valsL P.data.toList = none → decV' s.data.toList = .tuple #[.string ⟨#[]⟩, .int .i64 6] := fun e => decV_none _ (hd1' (hPl ▸ e))
  have hd2 : ∀ vs, valsL P.data.toList = some vs → okE (decE 0 0 vs) = false → decV' s.data.toList = .tuple #[.string ⟨#[]⟩, .int .i64 6] := fun vs e1 e2 => decV_none _ (hd2' vs (hPl ▸ e1) e2)
  have hd3 : ∀ vs, valsL P.data.toList = some vs → okE (decE 0 0 vs) = true → decV' s.data.toList = .tuple #[.string ⟨(decV 0 0 vs).toArray⟩, .int .i64 0] := fun vs e1 e2 => decV_some _ _ (hd3' vs (hPl ▸ e1) e2)
  have HD := Lib.hid (And.intro hd1 (And.intro hd2 hd3))
  clear hd1 hd2 hd3 hd1' hd2' hd3' hP hPl hPz hlt hne
  generalize decV' s.data.toList = D at HD ⊢
  go_enter Tryz.func69, Tryz.ntmps69
  go_wp2_with (first
    | (go_at_call 89; refine (HT.out _).mono ?_; rintro e w1 ⟨rfl, rfl⟩; rw [HP.out])
    | (go_at_call 57; refine (HR.out _).mono ?_; rintro e w2 ⟨rfl, hb2⟩; rw [HR2.out])
    | (go_at_call 55; refine (startD_any w2 6 8 90).mono ?_; rintro e w3 ⟨rfl, hp3, hb3⟩)
    | (go_at_call 91; refine (values_any w3).mono ?_; rintro e w4 ⟨rfl, rfl⟩))
  obtain ⟨p4, m4, b4⟩ := hp3.mapped
  generalize w3.alloc (mapE 64) = w4 at p4 m4 b4 ⊢
  have HB := Lib.hid (show Below w1.heap.size w1 w4 from up hb2 (hb3.trans (b4)))
  have HP4 := Lib.hid (show HpD (fun j => j = w3.heap.size) w2.heap.size (w2.heap.size + 1) w2.heap.size ⟨0, 0, []⟩ w4 from p4)
  have HM4 := Lib.hid m4
  have hwb : w1.heap.size ≤ w2.heap.size := hb2.size
  clear p4 m4 b4 hp3 hb3
  generalize w3.heap.size = m at HP4 HM4 ⊢
  have hPs : P.data.toList.length = P.size := by simp
  go_loopw [39] (fun i wr => ∃ k : Nat, k ≤ P.size ∧ i = .int .i64 k ∧ Hid (∃ vs, valsL (P.data.toList.take k) = some vs ∧ HpD (fun j => j = m) w2.heap.size (w2.heap.size + 1) w2.heap.size (runD vs) wr ∧ wr.heap[m]? = some (mapE 64) ∧ Below w1.heap.size w1 wr)) (fun i _ => P.size - (intOf i).toNat)
  case atStart => exact ⟨0, by omega, rfl, [], rfl, HP4.out, HM4.out, HB.out⟩
  case round =>
    clear HP4 HM4 HB
    obtain ⟨k, hk, rfl, hid⟩ := hrel
    obtain ⟨vs, hvs, hp, hm, hb⟩ := hid.out
    have hvl : ∀ v ∈ vs, v < 64 := (map_vals _ _ hvs).2
    have hlen := vals_len _ _ hvs
    rw [List.length_take] at hlen
    clear hid
    by_cases hk2 : k < P.size
    · obtain ⟨c, hc⟩ : ∃ c, P.data.toList[k]? = some c := ⟨P.data.toList[k]'(by omega), List.getElem?_eq_getElem (by omega)⟩
      have hx := idx_run 9 P k c hc Tryz.underlying9
      have hlk := look_run m wr hm c
      have HB := Lib.hid hb
      have HM := Lib.hid hm
      cases hv : vl c with
      | none =>
        have hfin : D = .tuple #[.string ⟨#[]⟩, .int .i64 6] := HD.out.1 (by
          have e : P.data.toList = P.data.toList.take k ++ c :: P.data.toList.drop (k + 1) := by
            have hlt2 : k < P.data.toList.length := by omega
            have e2 : P.data.toList[k] = c := (List.getElem?_eq_some_iff.1 hc).2
            rw [← e2, ← List.drop_eq_getElem_cons hlt2, List.take_append_drop]
          rw [e]; exact vals_stop _ _ _ hv)
        rw [hv] at hlk
        have hlk' : ∀ (x : Int) (y : Bool), x = 0 → y = false → Sem.run Tryz.prog (Instr.lookup 111 (.map (some m)) (.int .u8 (c.toNat : Int)) true) wr = .ok (.tuple #[.int .i64 x, .bool y]) wr := fun x y hx hy => by rw [hx, hy]; exact hlk
        have hlk2 := hlk' 0 false rfl rfl
        clear hvs hp hm hb hlk hlk' hc hv hlen hvl hPs HD
        subst hfin
        go_wp2
        go_ret2
        exact ⟨rfl, HB.out⟩
      | some v =>
        have hv64 := (ch_vl c v hv).1
        have hvs2 := vals_snoc _ c vs v hvs hv
        have htk : P.data.toList.take (k + 1) = P.data.toList.take k ++ [c] := by rw [List.take_add_one, hc]; rfl
        rw [← htk] at hvs2
        rw [hv] at hlk
        have hlk2 : Sem.run Tryz.prog (Instr.lookup 111 (.map (some m)) (.int .u8 (c.toNat : Int)) true) wr = .ok (.tuple #[.int .i64 (v : Int), .bool true]) wr := hlk
        have HC := Lib.hid (putD_any _ _ _ _ (runD vs) v hv64 (runD_ok _ hvl) wr hp (by have := runD_len vs; omega))
        have HV := Lib.hid hvs2
        have HR9 := Lib.hid (runD_snoc vs v)
        clear hvs hp hm hb hlk hc hv hlen hvl hPs hvs2 htk
        go_wp2_with (go_at_call 82; refine HC.out.mono ?_; rintro e w5 ⟨rfl, hp5, hs5⟩; rw [← HR9.out] at hp5; have HI := Lib.hid (And.intro hp5 (And.intro ((hs5.2 m rfl).trans HM.out) (HB.out.trans (hs5.1.mono hwb)))); clear hp5 hs5)
        refine ⟨⟨k + 1, by omega, by go_num, _, HV.out, HI.out⟩, ?_⟩
        show P.size - ((k : Int) + 1).toNat < P.size - (k : Int).toNat
        omega
    · obtain rfl : k = P.size := by omega
      rw [List.take_of_length_le (by omega)] at hvs
      have hdr := dec_run vs hvl
      have hok := runD_ok vs hvl
      have hrl := runD_len vs
      have HD2 := Lib.hid (And.intro (HD.out.2.1 vs hvs) (HD.out.2.2 vs hvs))
      have HB := Lib.hid hb
      clear HD hvs hm hb hPs
      generalize runD vs = p at hp hdr hok hrl
      obtain ⟨b, k, o⟩ := p
      have HR8 := Lib.hid hdr
      clear hdr
      have HC := Lib.hid (rest_any _ _ _ _ _ _ _ _ _ _ wr hp)
      simp only at HC hrl
      clear hp
      have hok' : OkD ⟨b, k, o⟩ := hok
      clear hok
      by_cases hk6 : k < 6
      · by_cases hb0 : b = 0
        · have hokE : okE (decE 0 0 vs) = true := by rw [HR8.out.2]; simp [hk6, hb0]
          have hfin := HD2.out.2 hokE
          rw [← HR8.out.1] at hfin
          have hk7 : (k : Int) < 6 := by omega
          have HOo := Lib.hid (show o.length ≤ 9000 by omega)
          clear HD2 HR8 hokE hok' hrl hlen
          subst hfin
          subst hb0
          go_wp2_with (go_at_call 83; refine HC.out.mono ?_; rintro e w5 ⟨rfl, hp5, hs5⟩; obtain ⟨v, hbT, hown, hof⟩ := hp5.row; obtain ⟨A, cc, rfl, hcc, -⟩ := own_slice hown; have hcT := hbT.cell 0 _ rfl; have hcv := str_back hown; have HS5 := Lib.hid hs5.1; clear hp5 hs5 hbT hown hof)
          go_ret2
          exact ⟨rfl, HB.out.trans (HS5.out.mono hwb)⟩
        · have hokE : okE (decE 0 0 vs) = false := by rw [HR8.out.2]; simp [hk6, hb0]
          have hfin := HD2.out.1 hokE
          have hk7 : (k : Int) < 6 := by omega
          have hb7 : (b : Int) ≠ 0 := by omega
          have hb8 : ((b : Int) != 0) = true := by simpa using hb7
          clear HD2 HR8 hokE hok' hrl hlen
          subst hfin
          go_wp2_with (go_at_call 83; refine HC.out.mono ?_; rintro e w5 ⟨rfl, hp5, hs5⟩; have HS5 := Lib.hid hs5.1; clear hp5 hs5)
          go_ret2
          exact ⟨rfl, HB.out.trans (HS5.out.mono hwb)⟩
      · have hokE : okE (decE 0 0 vs) = false := by rw [HR8.out.2]; simp [hk6]
        have hfin := HD2.out.1 hokE
        have hk7 : (6 : Int) ≤ k := by omega
        clear HD2 HR8 hokE hok' hrl hlen
        subst hfin
        go_wp2_with (go_at_call 83; refine HC.out.mono ?_; rintro e w5 ⟨rfl, hp5, hs5⟩; have HS5 := Lib.hid hs5.1; clear hp5 hs5)
        go_ret2
        exact ⟨rfl, HB.out.trans (HS5.out.mono hwb)⟩

set_option maxRecDepth 100000 in
set_option maxHeartbeats 4000000 in
theorem decode_bare (s : ByteArray) (w : World) (h : s.size ≤ 8192) (hne : s.data.toList = trimL s.data.toList) : Calls Tryz.prog 69 #[.string s] w fun e w' => e = .returned (decV' s.data.toList) ∧ Below w.heap.size w w' := by
  obtain ⟨hd1', hd2', hd3'⟩ := decL_pad s.data.toList (.inl hne)
  have h1 : (s.size : Int) ≤ 8192 := by omega
  have hlt := trim_len s.data.toList
  simp only [Array.length_toList] at hlt
  obtain ⟨P, hP⟩ : ∃ P : ByteArray, P = ⟨(trimL s.data.toList).toArray⟩ := ⟨_, rfl⟩
  have hPl : P.data.toList = trimL s.data.toList := by rw [hP]
  have hPz : P.size = (trimL s.data.toList).length := by rw [hP, Lib.size_mk]
  have hPz2 : P.size ≤ 8192 := by rw [hPz]; exact Nat.le_trans hlt h
  have HT := Lib.hid (fun W => Tryz.strings_TrimRight_one s 61 (by decide) W (by omega))
  have HP := Lib.hid (show (⟨(Lib.trimRightB s.data.toList 61).toArray⟩ : ByteArray) = P from hP.symm)
  have q1 : (s.toList == P.toList) = true := by
    have e : s = P := ba_eq (by rw [hPl]; exact hne)
    rw [← e]; simp
  have hd1 : valsL P.data.toList = none → decV' s.data.toList = .tuple #[.string ⟨#[]⟩, .int .i64 6] := fun e => decV_none _ (hd1' (hPl ▸ e))
  have hd2 : ∀ vs, valsL P.data.toList = some vs → okE (decE 0 0 vs) = false → decV' s.data.toList = .tuple #[.string ⟨#[]⟩, .int .i64 6] := fun vs e1 e2 => decV_none _ (hd2' vs (hPl ▸ e1) e2)
  have hd3 : ∀ vs, valsL P.data.toList = some vs → okE (decE 0 0 vs) = true → decV' s.data.toList = .tuple #[.string ⟨(decV 0 0 vs).toArray⟩, .int .i64 0] := fun vs e1 e2 => decV_some _ _ (hd3' vs (hPl ▸ e1) e2)
  have HD := Lib.hid (And.intro hd1 (And.intro hd2 hd3))
  clear hd1 hd2 hd3 hd1' hd2' hd3' hP hPl hPz hlt hne
  generalize decV' s.data.toList = D at HD ⊢
  go_enter Tryz.func69, Tryz.ntmps69
  go_wp2_with (first
    | (go_at_call 89; refine (HT.out _).mono ?_; rintro e w1 ⟨rfl, rfl⟩; rw [HP.out])
    | (go_at_call 55; refine (startD_any w1 6 8 90).mono ?_; rintro e w3 ⟨rfl, hp3, hb3⟩)
    | (go_at_call 91; refine (values_any w3).mono ?_; rintro e w4 ⟨rfl, rfl⟩))
  obtain ⟨p4, m4, b4⟩ := hp3.mapped
  generalize w3.alloc (mapE 64) = w4 at p4 m4 b4 ⊢
  have HB := Lib.hid (show Below w1.heap.size w1 w4 from hb3.trans b4)
  have HP4 := Lib.hid (show HpD (fun j => j = w3.heap.size) w1.heap.size (w1.heap.size + 1) w1.heap.size ⟨0, 0, []⟩ w4 from p4)
  have HM4 := Lib.hid m4
  have hwb : w1.heap.size ≤ w1.heap.size := Nat.le_refl _
  clear p4 m4 b4 hp3 hb3
  generalize w3.heap.size = m at HP4 HM4 ⊢
  have hPs : P.data.toList.length = P.size := by simp
  go_loopw [39] (fun i wr => ∃ k : Nat, k ≤ P.size ∧ i = .int .i64 k ∧ Hid (∃ vs, valsL (P.data.toList.take k) = some vs ∧ HpD (fun j => j = m) w1.heap.size (w1.heap.size + 1) w1.heap.size (runD vs) wr ∧ wr.heap[m]? = some (mapE 64) ∧ Below w1.heap.size w1 wr)) (fun i _ => P.size - (intOf i).toNat)
  case atStart => exact ⟨0, by omega, rfl, [], rfl, HP4.out, HM4.out, HB.out⟩
  case round =>
    clear HP4 HM4 HB
    obtain ⟨k, hk, rfl, hid⟩ := hrel
    obtain ⟨vs, hvs, hp, hm, hb⟩ := hid.out
    have hvl : ∀ v ∈ vs, v < 64 := (map_vals _ _ hvs).2
    have hlen := vals_len _ _ hvs
    rw [List.length_take] at hlen
    clear hid
    by_cases hk2 : k < P.size
    · obtain ⟨c, hc⟩ : ∃ c, P.data.toList[k]? = some c := ⟨P.data.toList[k]'(by omega), List.getElem?_eq_getElem (by omega)⟩
      have hx := idx_run 9 P k c hc Tryz.underlying9
      have hlk := look_run m wr hm c
      have HB := Lib.hid hb
      have HM := Lib.hid hm
      cases hv : vl c with
      | none =>
        have hfin : D = .tuple #[.string ⟨#[]⟩, .int .i64 6] := HD.out.1 (by
          have e : P.data.toList = P.data.toList.take k ++ c :: P.data.toList.drop (k + 1) := by
            have hlt2 : k < P.data.toList.length := by omega
            have e2 : P.data.toList[k] = c := (List.getElem?_eq_some_iff.1 hc).2
            rw [← e2, ← List.drop_eq_getElem_cons hlt2, List.take_append_drop]
          rw [e]; exact vals_stop _ _ _ hv)
        rw [hv] at hlk
        have hlk' : ∀ (x : Int) (y : Bool), x = 0 → y = false → Sem.run Tryz.prog (Instr.lookup 111 (.map (some m)) (.int .u8 (c.toNat : Int)) true) wr = .ok (.tuple #[.int .i64 x, .bool y]) wr := fun x y hx hy => by rw [hx, hy]; exact hlk
        have hlk2 := hlk' 0 false rfl rfl
        clear hvs hp hm hb hlk hlk' hc hv hlen hvl hPs HD
        subst hfin
        go_wp2
        go_ret2
        exact ⟨rfl, HB.out⟩
      | some v =>
        have hv64 := (ch_vl c v hv).1
        have hvs2 := vals_snoc _ c vs v hvs hv
        have htk : P.data.toList.take (k + 1) = P.data.toList.take k ++ [c] := by rw [List.take_add_one, hc]; rfl
        rw [← htk] at hvs2
        rw [hv] at hlk
        have hlk2 : Sem.run Tryz.prog (Instr.lookup 111 (.map (some m)) (.int .u8 (c.toNat : Int)) true) wr = .ok (.tuple #[.int .i64 (v : Int), .bool true]) wr := hlk
        have HC := Lib.hid (putD_any _ _ _ _ (runD vs) v hv64 (runD_ok _ hvl) wr hp (by have := runD_len vs; omega))
        have HV := Lib.hid hvs2
        have HR9 := Lib.hid (runD_snoc vs v)
        clear hvs hp hm hb hlk hc hv hlen hvl hPs hvs2 htk
        go_wp2_with (go_at_call 82; refine HC.out.mono ?_; rintro e w5 ⟨rfl, hp5, hs5⟩; rw [← HR9.out] at hp5; have HI := Lib.hid (And.intro hp5 (And.intro ((hs5.2 m rfl).trans HM.out) (HB.out.trans (hs5.1.mono hwb)))); clear hp5 hs5)
        refine ⟨⟨k + 1, by omega, by go_num, _, HV.out, HI.out⟩, ?_⟩
        show P.size - ((k : Int) + 1).toNat < P.size - (k : Int).toNat
        omega
    · obtain rfl : k = P.size := by omega
      rw [List.take_of_length_le (by omega)] at hvs
      have hdr := dec_run vs hvl
      have hok := runD_ok vs hvl
      have hrl := runD_len vs
      have HD2 := Lib.hid (And.intro (HD.out.2.1 vs hvs) (HD.out.2.2 vs hvs))
      have HB := Lib.hid hb
      clear HD hvs hm hb hPs
      generalize runD vs = p at hp hdr hok hrl
      obtain ⟨b, k, o⟩ := p
      have HR8 := Lib.hid hdr
      clear hdr
      have HC := Lib.hid (rest_any _ _ _ _ _ _ _ _ _ _ wr hp)
      simp only at HC hrl
      clear hp
      have hok' : OkD ⟨b, k, o⟩ := hok
      clear hok
      by_cases hk6 : k < 6
      · by_cases hb0 : b = 0
        · have hokE : okE (decE 0 0 vs) = true := by rw [HR8.out.2]; simp [hk6, hb0]
          have hfin := HD2.out.2 hokE
          rw [← HR8.out.1] at hfin
          have hk7 : (k : Int) < 6 := by omega
          have HOo := Lib.hid (show o.length ≤ 9000 by omega)
          clear HD2 HR8 hokE hok' hrl hlen
          subst hfin
          subst hb0
          go_wp2_with (go_at_call 83; refine HC.out.mono ?_; rintro e w5 ⟨rfl, hp5, hs5⟩; obtain ⟨v, hbT, hown, hof⟩ := hp5.row; obtain ⟨A, cc, rfl, hcc, -⟩ := own_slice hown; have hcT := hbT.cell 0 _ rfl; have hcv := str_back hown; have HS5 := Lib.hid hs5.1; clear hp5 hs5 hbT hown hof)
          go_ret2
          exact ⟨rfl, HB.out.trans (HS5.out.mono hwb)⟩
        · have hokE : okE (decE 0 0 vs) = false := by rw [HR8.out.2]; simp [hk6, hb0]
          have hfin := HD2.out.1 hokE
          have hk7 : (k : Int) < 6 := by omega
          have hb7 : (b : Int) ≠ 0 := by omega
          have hb8 : ((b : Int) != 0) = true := by simpa using hb7
          clear HD2 HR8 hokE hok' hrl hlen
          subst hfin
          go_wp2_with (go_at_call 83; refine HC.out.mono ?_; rintro e w5 ⟨rfl, hp5, hs5⟩; have HS5 := Lib.hid hs5.1; clear hp5 hs5)
          go_ret2
          exact ⟨rfl, HB.out.trans (HS5.out.mono hwb)⟩
      · have hokE : okE (decE 0 0 vs) = false := by rw [HR8.out.2]; simp [hk6]
        have hfin := HD2.out.1 hokE
        have hk7 : (6 : Int) ≤ k := by omega
        clear HD2 HR8 hokE hok' hrl hlen
        subst hfin
        go_wp2_with (go_at_call 83; refine HC.out.mono ?_; rintro e w5 ⟨rfl, hp5, hs5⟩; have HS5 := Lib.hid hs5.1; clear hp5 hs5)
        go_ret2
        exact ⟨rfl, HB.out.trans (HS5.out.mono hwb)⟩

theorem decode_any (s : ByteArray) (w : World) (h : s.size ≤ 8192) : Calls Tryz.prog 69 #[.string s] w fun e w' => e = .returned (decV' s.data.toList) ∧ Below w.heap.size w w' := by
  by_cases h1 : s.data.toList = trimL s.data.toList
  · exact decode_bare s w h h1
  · by_cases h2 : s.data.toList = trimL s.data.toList ++ padL (trimL s.data.toList).length
    · exact decode_pad s w h h1 h2
    · exact decode_bad s w h h1 h2
end Go.Proofs.YtoilcigmpeaedaaGreatDoor.B64

namespace Go.Proofs.YtoilcigmpeaedaaGreatDoor.B64
open Go.RowKit Utf

theorem ba_same (a : ByteArray) : (a.toList == a.toList) = true := by simp
end Go.Proofs.YtoilcigmpeaedaaGreatDoor.B64

namespace Go.Proofs.YtoilcigmpeaedaaGreatDoor.B64
open Go.RowKit Utf

/-- what value answers -/
def vlI (c : UInt8) : Int := match vl c with | some v => (v : Int) | none => -1
theorem vl_at (c : UInt8) (k : Nat) (hk : k < 64) (h : ch k = c) (_ : ∀ j, j < k → ch j ≠ c) : vlI c = (k : Int) := by
  have := vl_ch k hk
  rw [h] at this
  rw [vlI, this]
theorem vl_out (c : UInt8) (hn : ∀ j, j < 64 → ch j ≠ c) : vlI c = -1 := by
  unfold vlI
  cases hv : vl c with
  | none => rfl
  | some v =>
    obtain ⟨h1, h2⟩ := ch_vl c v hv
    exact absurd h2 (hn v h1)
theorem u8_eq (a b : UInt8) (h : a ≠ b) : ((a.toNat : Int) == (b.toNat : Int)) = false := by
  rw [beq_eq_false_iff_ne]
  intro e
  exact h (UInt8.toNat_inj.1 (by omega))
set_option maxRecDepth 100000 in
set_option maxHeartbeats 2000000 in
theorem rvalue_any (c : UInt8) (w : World) : Calls Tryz.prog 71 #[.int .u8 (c.toNat : Int)] w fun e w' => e = .returned (.int .i64 (vlI c)) ∧ w' = w := by
  obtain ⟨D, hD⟩ : ∃ D, D = vlI c := ⟨_, rfl⟩
  have HD := Lib.hid hD
  rw [← hD]
  clear hD
  go_enter Tryz.func71, Tryz.ntmps71
  go_wp2_with fail
  go_loopw [3] (fun i wr => ∃ k : Nat, k ≤ 64 ∧ i = .int .i64 k ∧ Hid (∀ j, j < k → ch j ≠ c) ∧ wr = w) (fun i _ => 64 - (intOf i).toNat)
  case atStart => exact ⟨0, by omega, rfl, fun j hj => absurd hj (by omega), rfl⟩
  case round =>
    obtain ⟨k, hk, rfl, hid, rfl⟩ := hrel
    by_cases hk2 : k < 64
    · have hA := alpha_run k hk2
      by_cases hc : ch k = c
      · have hfin := HD.out.trans (vl_at c k hk2 hc hid.out)
        subst hfin
        subst hc
        have he : (((ch k).toNat : Int) == ((ch k).toNat : Int)) = true := by simp
        clear hid HD
        go_wp2
        go_ret
        exact ⟨rfl, rfl⟩
      · have he := u8_eq _ _ hc
        have HI := Lib.hid (show ∀ j, j < k + 1 → ch j ≠ c from fun j hj => by
          rcases (show j < k ∨ j = k by omega) with h | rfl
          · exact hid.out j h
          · exact hc)
        clear hid hc HD
        generalize ch k = x at hA he
        go_wp2
        refine ⟨⟨k + 1, by omega, by go_num, HI, trivial⟩, ?_⟩
        show 64 - ((k : Int) + 1).toNat < 64 - (k : Int).toNat
        omega
    · obtain rfl : k = 64 := by omega
      have hfin := HD.out.trans (vl_out c hid.out)
      subst hfin
      clear HD
      go_wp2
      go_ret
      exact ⟨rfl, rfl⟩

/-- a bit of a list of bytes -/
def bt (l : List UInt8) (k : Nat) : Nat := match l[k / 8]? with | some x => x.toNat / 2 ^ (7 - k % 8) % 2 | none => 0
def nb (l : List UInt8) (bit : Nat) : Nat → Nat
  | 0 => 0
  | i + 1 => 2 * nb l bit i + bt l (bit + i)
theorem bt_lt (l : List UInt8) (k : Nat) : bt l k < 2 := by
  unfold bt
  split <;> omega
theorem nb_lt (l : List UInt8) (bit i : Nat) : nb l bit i < 2 ^ i := by
  induction i with
  | zero => show 0 < 1; omega
  | succ i ih =>
    have := bt_lt l (bit + i)
    rw [nb, Nat.pow_succ]
    omega
theorem bt_shift (x y z : UInt8) (r : List UInt8) (k : Nat) : bt (x :: y :: z :: r) (k + 24) = bt r k := by
  unfold bt
  have e1 : (k + 24) / 8 = k / 8 + 1 + 1 + 1 := by omega
  have e2 : (k + 24) % 8 = k % 8 := by omega
  rw [e1, e2]
  simp
theorem nb_shift (x y z : UInt8) (r : List UInt8) (bit i : Nat) : nb (x :: y :: z :: r) (bit + 24) i = nb r bit i := by
  induction i with
  | zero => rfl
  | succ i ih =>
    rw [nb, nb, ih, show bit + 24 + i = bit + i + 24 by omega, bt_shift]
theorem bits_x (n : Nat) (h : n < 256) : n / 128 % 2 * 32 + n / 64 % 2 * 16 + n / 32 % 2 * 8 + n / 16 % 2 * 4 + n / 8 % 2 * 2 + n / 4 % 2 = n / 4 ∧ n / 2 % 2 * 2 + n % 2 = n % 4 ∧
    n / 128 % 2 * 8 + n / 64 % 2 * 4 + n / 32 % 2 * 2 + n / 16 % 2 = n / 16 ∧ n / 8 % 2 * 8 + n / 4 % 2 * 4 + n / 2 % 2 * 2 + n % 2 = n % 16 ∧ n / 128 % 2 * 2 + n / 64 % 2 = n / 64 ∧
    n / 32 % 2 * 32 + n / 16 % 2 * 16 + n / 8 % 2 * 8 + n / 4 % 2 * 4 + n / 2 % 2 * 2 + n % 2 = n % 64 := by
  refine ⟨?_, ?_, ?_, ?_, ?_, ?_⟩ <;> omega
theorem nb6 (l : List UInt8) (b : Nat) : nb l b 6 = bt l b * 32 + bt l (b + 1) * 16 + bt l (b + 2) * 8 + bt l (b + 3) * 4 + bt l (b + 4) * 2 + bt l (b + 5) := by
  simp only [nb, Nat.add_zero]
  omega
theorem nb_0 (x : UInt8) (r : List UInt8) : nb (x :: r) 0 6 = x.toNat / 4 := by
  rw [nb6]
  simp [bt]
  have := (bits_x x.toNat x.toNat_lt).1
  omega
theorem nb_1a (x : UInt8) : nb [x] 6 6 = x.toNat % 4 * 16 := by
  rw [nb6]
  simp [bt]
  have := (bits_x x.toNat x.toNat_lt).2.1
  omega
theorem nb_1 (x y : UInt8) (r : List UInt8) : nb (x :: y :: r) 6 6 = x.toNat % 4 * 16 + y.toNat / 16 := by
  rw [nb6]
  simp [bt]
  have h1 := (bits_x x.toNat x.toNat_lt).2.1
  have h2 := (bits_x y.toNat y.toNat_lt).2.2.1
  omega
theorem nb_2a (x y : UInt8) : nb [x, y] 12 6 = y.toNat % 16 * 4 := by
  rw [nb6]
  simp [bt]
  have h1 := (bits_x y.toNat y.toNat_lt).2.2.2.1
  omega
theorem nb_2 (x y z : UInt8) (r : List UInt8) : nb (x :: y :: z :: r) 12 6 = y.toNat % 16 * 4 + z.toNat / 64 := by
  rw [nb6]
  simp [bt]
  have h1 := (bits_x y.toNat y.toNat_lt).2.2.2.1
  have h2 := (bits_x z.toNat z.toNat_lt).2.2.2.2.1
  omega
theorem nb_3 (x y z : UInt8) (r : List UInt8) : nb (x :: y :: z :: r) 18 6 = z.toNat % 64 := by
  rw [nb6]
  simp [bt]
  have h1 := (bits_x z.toNat z.toNat_lt).2.2.2.2.2
  omega
theorem nb_enc : ∀ (n : Nat) (l : List UInt8), l.length ≤ n → ∀ j, j < (encV 0 0 l).length → (encV 0 0 l)[j]? = some (nb l (6 * j) 6) := by
  intro n
  induction n with
  | zero =>
    intro l hl j hj
    obtain rfl : l = [] := List.eq_nil_of_length_eq_zero (by omega)
    simp [encV] at hj
  | succ n ih =>
    intro l hl j hj
    match l, hl, hj with
    | [], _, hj => simp [encV] at hj
    | [x], _, hj =>
      simp [encV] at hj
      rcases (show j = 0 ∨ j = 1 by omega) with rfl | rfl
      · rw [nb_0]; simp [encV]
      · rw [nb_1a]; simp [encV]
    | [x, y], _, hj =>
      simp [encV] at hj
      rcases (show j = 0 ∨ j = 1 ∨ j = 2 by omega) with rfl | rfl | rfl
      · rw [nb_0]; simp [encV]
      · rw [nb_1]; simp [encV]
      · rw [nb_2a]; simp [encV]
    | x :: y :: z :: r, hl, hj =>
      have e : encV 0 0 (x :: y :: z :: r) = x.toNat / 4 :: (x.toNat % 4 * 16 + y.toNat / 16) :: (y.toNat % 16 * 4 + z.toNat / 64) :: z.toNat % 64 :: encV 0 0 r := by simp [encV]
      rw [e] at hj ⊢
      rcases (show j = 0 ∨ j = 1 ∨ j = 2 ∨ j = 3 ∨ 4 ≤ j by omega) with rfl | rfl | rfl | rfl | h4
      · rw [nb_0]; rfl
      · rw [nb_1]; rfl
      · rw [nb_2]; rfl
      · rw [nb_3]; rfl
      · obtain ⟨i, rfl⟩ : ∃ i, j = i + 4 := ⟨j - 4, by omega⟩
        rw [show 6 * (i + 4) = 6 * i + 24 by omega, nb_shift]
        have := ih r (by simp at hl; omega) i (by simp at hj; omega)
        simpa using this

theorem pw_run (r : Nat) (hr : r < 8) (w : World) : (Instr.index 108 (.agg #[.int .i64 128, .int .i64 64, .int .i64 32, .int .i64 16, .int .i64 8, .int .i64 4, .int .i64 2, .int .i64 1]) (.int .i64 (r : Int))).run Tryz.prog w = .ok (.int .i64 ((2 ^ (7 - r) : Nat) : Int)) w := by
  rcases (show r = 0 ∨ r = 1 ∨ r = 2 ∨ r = 3 ∨ r = 4 ∨ r = 5 ∨ r = 6 ∨ r = 7 by omega) with rfl | rfl | rfl | rfl | rfl | rfl | rfl | rfl <;> kernel_rfl
theorem get_some' {α : Type} (l : List α) (k : Nat) (h : k < l.length) : ∃ x, l[k]? = some x := ⟨l[k], by simp⟩
set_option maxRecDepth 100000 in
set_option maxHeartbeats 8000000 in
theorem rbare_any (s : ByteArray) (w : World) (hs : s.size ≤ 20000) : Calls Tryz.prog 62 #[.string s] w fun e w' => e = .returned (.string ⟨(bareL s.data.toList).toArray⟩) ∧ Below w.heap.size w w' := by
  obtain ⟨l, hl⟩ : ∃ l, l = s.data.toList := ⟨_, rfl⟩
  have hll : l.length = s.size := by rw [hl]; simp
  obtain ⟨D, hD⟩ : ∃ D : ByteArray, D = ⟨(bareL l).toArray⟩ := ⟨_, rfl⟩
  rw [← hl, ← hD]
  obtain ⟨N, hN⟩ : ∃ N, N = (4 * s.size + 2) / 3 := ⟨_, rfl⟩
  have hNe : (encV 0 0 l).length = N := by rw [(enc_len l).1, hll, hN]
  have HG := Lib.hid (fun j (hj : j < N) => nb_enc l.length l (Nat.le_refl _) j (by rw [hNe]; exact hj))
  have HDl := Lib.hid (show D = ⟨(((encV 0 0 l).take N).map ch).toArray⟩ by rw [hD, List.take_of_length_le (by omega)]; rfl)
  have HL := Lib.hid hl
  have hN1 : 3 * N ≤ 4 * s.size + 2 := by omega
  have hN2 : 4 * s.size ≤ 3 * N := by omega
  clear hD hl hNe hN
  have HLl := Lib.hid hll
  clear hll
  obtain ⟨t0, hi0, hy0, hy1, hy2⟩ := info_parts infoB
  go_enter Tryz.func62, Tryz.ntmps62
  go_wp2_with fail
  go_loopw [3, 4] (fun ov bv wr => ∃ j : Nat, j ≤ N ∧ bv = .int .i64 ((6 * j : Nat) : Int) ∧ Hid (wr.ownsRow w.heap.size 5 1 ov j (cB (((encV 0 0 l).take j).map ch)) ∧ Below w.heap.size w wr)) (fun _ bv _ => 6 * N - (intOf bv).toNat)
  case atStart => exact ⟨0, Nat.zero_le _, rfl, World.ownsRow_nil _ _ _ _, Below.refl _ _⟩
  case round =>
    obtain ⟨j, hj, rfl, hid⟩ := hrel
    obtain ⟨AO, co, hsh, _, _⟩ := own_slice hid.out.1
    subst hsh
    obtain ⟨B, hB⟩ : ∃ B : Nat, B = 6 * j := ⟨_, rfl⟩
    rw [← hB]
    have hB1 : B ≤ 200000 := by omega
    by_cases hlt : j < N
    · have h6 : (B : Int) < 8 * (s.size : Int) := by omega
      have HV := Lib.hid (HG.out j hlt)
      have HB := Lib.hid hB
      clear hB
      go_wp2_with fail
      obtain ⟨wo, hwo⟩ : ∃ wo, wo = wr := ⟨_, rfl⟩
      subst hwo
      go_loopw [5, 6] (fun nv kv wi => ∃ i : Nat, i ≤ 6 ∧ kv = .int .i64 ((B + i : Nat) : Int) ∧ nv = .int .i64 ((nb l B i : Nat) : Int) ∧ Hid (Below wo.heap.size wo wi)) (fun _ kv _ => B + 6 - (intOf kv).toNat)
      case atStart => exact ⟨0, by omega, rfl, rfl, Below.refl _ _⟩
      case round =>
        obtain ⟨i, hi, rfl, rfl, hidi⟩ := hrel
        obtain ⟨K, hK⟩ : ∃ K : Nat, K = B + i := ⟨_, rfl⟩
        rw [← hK]
        have hn9 := nb_lt l B i
        by_cases hi2 : i < 6
        · have h7 : (K : Int) < (B : Int) + 6 := by omega
          have hn8 : nb l B i < 64 := Nat.lt_of_lt_of_le hn9 (Nat.pow_le_pow_right (n := 2) (by omega) hi)
          obtain ⟨p, hp⟩ : ∃ p : Nat, p = K / 8 := ⟨_, rfl⟩
          obtain ⟨r, hr⟩ : ∃ r : Nat, r = K % 8 := ⟨_, rfl⟩
          have hp1 : (K : Int) / 8 = (p : Int) := by omega
          have hr1 : (K : Int) % 8 = (r : Int) := by omega
          have hr8 : r < 8 := by omega
          have HI := Lib.hid (show nb l B (i + 1) = 2 * nb l B i + bt l K by rw [nb, hK])
          obtain ⟨n9, hn⟩ : ∃ n9, n9 = nb l B i := ⟨_, rfl⟩
          rw [← hn] at hn8 HI ⊢
          have HK := Lib.hid hK
          clear hn9 hn hK
          by_cases hps : p < s.size
          · obtain ⟨c, hc⟩ := get_some' l p (by rw [HLl.out]; exact hps)
            have hx := idx_run 9 s p c (by rw [← HL.out]; exact hc) Tryz.underlying9
            have hw := pw_run r hr8
            obtain ⟨d, hd⟩ : ∃ d : Nat, d = 2 ^ (7 - r) := ⟨_, rfl⟩
            have hd1 : 1 ≤ d ∧ d ≤ 128 := by
              rw [hd]; exact ⟨Nat.one_le_two_pow, (by have := Nat.pow_le_pow_right (n := 2) (by omega) (show 7 - r ≤ 7 by omega); exact this)⟩
            have hbt : bt l K = c.toNat / d % 2 := by unfold bt; rw [← hp, hc, ← hr, ← hd]
            rw [hbt] at HI
            rw [← hd] at hw
            have hc1 : (c.toNat : Int) < 256 := by have := c.toNat_lt; omega
            have hd2 : (0 : Int) < d := by omega
            have hd3 : (d : Int) ≠ 0 := by omega
            obtain ⟨q, hq⟩ : ∃ q : Nat, q = c.toNat / d := ⟨_, rfl⟩
            have hq1 : (c.toNat : Int) / (d : Int) = (q : Int) := by rw [hq]; exact Int.natCast_ediv _ _ |>.symm
            have hq2 : q < 256 := by rw [hq]; exact Nat.lt_of_le_of_lt (Nat.div_le_self _ _) c.toNat_lt
            rw [← hq] at HI
            have p1 : (0 : Int) ≤ p := by omega
            have p2 : (p : Int) < s.size := by omega
            have r1 : (0 : Int) ≤ r := by omega
            have r2 : (r : Int) < 8 := by omega
            obtain ⟨e, he⟩ : ∃ e : Nat, e = q % 2 := ⟨_, rfl⟩
            have he1 : (q : Int).tmod 2 = (e : Int) := by rw [Int.tmod_eq_emod_of_nonneg (by omega)]; omega
            have he2 : (q : Int) % 2 = (e : Int) := by omega
            have hr2 : (K : Int).tmod 8 = (r : Int) := by rw [Int.tmod_eq_emod_of_nonneg (by omega)]; omega
            have hp2 : (K : Int).tdiv 8 = (p : Int) := by rw [Int.tdiv_eq_ediv_of_nonneg (by omega)]; omega
            have hq3 : (c.toNat : Int).tdiv (d : Int) = (q : Int) := by rw [Int.tdiv_eq_ediv_of_nonneg (by omega)]; exact hq1
            rw [← he] at HI
            have wp1 : IntKind.i64.wrap (p : Int) = p := IntWalk.i64_in _ (by omega)
            have wr1 : IntKind.i64.wrap (r : Int) = r := IntWalk.i64_in _ (by omega)
            have wc1 : IntKind.i64.wrap (c.toNat : Int) = c.toNat := IntWalk.i64_in _ (by omega)
            have wq1 : IntKind.i64.wrap (q : Int) = q := IntWalk.i64_in _ (by omega)
            clear hbt hc hq hp hr he
            have hd9 : (r = 0 ∧ d = 128) ∨ (r = 1 ∧ d = 64) ∨ (r = 2 ∧ d = 32) ∨ (r = 3 ∧ d = 16) ∨ (r = 4 ∧ d = 8) ∨ (r = 5 ∧ d = 4) ∨ (r = 6 ∧ d = 2) ∨ (r = 7 ∧ d = 1) := by
              rcases (show r = 0 ∨ r = 1 ∨ r = 2 ∨ r = 3 ∨ r = 4 ∨ r = 5 ∨ r = 6 ∨ r = 7 by omega) with h | h | h | h | h | h | h | h <;> subst h <;> simp at hd <;> simp [hd]
            clear hd hd1 hd2 hd3 hr8 r1 r2
            rcases hd9 with ⟨rfl, rfl⟩ | ⟨rfl, rfl⟩ | ⟨rfl, rfl⟩ | ⟨rfl, rfl⟩ | ⟨rfl, rfl⟩ | ⟨rfl, rfl⟩ | ⟨rfl, rfl⟩ | ⟨rfl, rfl⟩
            · have hr1' : (K : Int) % 8 = 0 := hr1
              have hr2' : (K : Int).tmod 8 = 0 := hr2
              have hq1' : (c.toNat : Int) / 128 = (q : Int) := hq1
              have hq3' : (c.toNat : Int).tdiv 128 = (q : Int) := hq3
              have hw' : ∀ W, (Instr.index 108 (.agg #[.int .i64 128, .int .i64 64, .int .i64 32, .int .i64 16, .int .i64 8, .int .i64 4, .int .i64 2, .int .i64 1]) (.int .i64 0)).run Tryz.prog W = .ok (.int .i64 128) W := hw
              clear hr1 hr2 hq1 hq3 hw wr1
              go_wp2_with fail
              go_region_held3 (fun _ => True) (trivial) (fail)
              all_goals
                rename_i K5 hK5 x5
                show K5 _ _
                refine hK5 _ _ ?_
                clear hK5
                go_wp2_with fail
                refine ⟨⟨i + 1, by omega, congrArg (Value.int .i64) (by rw [HK.out]; omega), congrArg (Value.int .i64) (by rw [HI.out]; omega), hidi.out.drew⟩, ?_⟩
                show B + 6 - ((K : Int) + 1).toNat < B + 6 - (K : Int).toNat
                have := HK.out
                omega
            · have hr1' : (K : Int) % 8 = 1 := hr1
              have hr2' : (K : Int).tmod 8 = 1 := hr2
              have hq1' : (c.toNat : Int) / 64 = (q : Int) := hq1
              have hq3' : (c.toNat : Int).tdiv 64 = (q : Int) := hq3
              have hw' : ∀ W, (Instr.index 108 (.agg #[.int .i64 128, .int .i64 64, .int .i64 32, .int .i64 16, .int .i64 8, .int .i64 4, .int .i64 2, .int .i64 1]) (.int .i64 1)).run Tryz.prog W = .ok (.int .i64 64) W := hw
              clear hr1 hr2 hq1 hq3 hw wr1
              go_wp2_with fail
              go_region_held3 (fun _ => True) (trivial) (fail)
              all_goals
                rename_i K5 hK5 x5
                show K5 _ _
                refine hK5 _ _ ?_
                clear hK5
                go_wp2_with fail
                refine ⟨⟨i + 1, by omega, congrArg (Value.int .i64) (by rw [HK.out]; omega), congrArg (Value.int .i64) (by rw [HI.out]; omega), hidi.out.drew⟩, ?_⟩
                show B + 6 - ((K : Int) + 1).toNat < B + 6 - (K : Int).toNat
                have := HK.out
                omega
            · have hr1' : (K : Int) % 8 = 2 := hr1
              have hr2' : (K : Int).tmod 8 = 2 := hr2
              have hq1' : (c.toNat : Int) / 32 = (q : Int) := hq1
              have hq3' : (c.toNat : Int).tdiv 32 = (q : Int) := hq3
              have hw' : ∀ W, (Instr.index 108 (.agg #[.int .i64 128, .int .i64 64, .int .i64 32, .int .i64 16, .int .i64 8, .int .i64 4, .int .i64 2, .int .i64 1]) (.int .i64 2)).run Tryz.prog W = .ok (.int .i64 32) W := hw
              clear hr1 hr2 hq1 hq3 hw wr1
              go_wp2_with fail
              go_region_held3 (fun _ => True) (trivial) (fail)
              all_goals
                rename_i K5 hK5 x5
                show K5 _ _
                refine hK5 _ _ ?_
                clear hK5
                go_wp2_with fail
                refine ⟨⟨i + 1, by omega, congrArg (Value.int .i64) (by rw [HK.out]; omega), congrArg (Value.int .i64) (by rw [HI.out]; omega), hidi.out.drew⟩, ?_⟩
                show B + 6 - ((K : Int) + 1).toNat < B + 6 - (K : Int).toNat
                have := HK.out
                omega
            · have hr1' : (K : Int) % 8 = 3 := hr1
              have hr2' : (K : Int).tmod 8 = 3 := hr2
              have hq1' : (c.toNat : Int) / 16 = (q : Int) := hq1
              have hq3' : (c.toNat : Int).tdiv 16 = (q : Int) := hq3
              have hw' : ∀ W, (Instr.index 108 (.agg #[.int .i64 128, .int .i64 64, .int .i64 32, .int .i64 16, .int .i64 8, .int .i64 4, .int .i64 2, .int .i64 1]) (.int .i64 3)).run Tryz.prog W = .ok (.int .i64 16) W := hw
              clear hr1 hr2 hq1 hq3 hw wr1
              go_wp2_with fail
              go_region_held3 (fun _ => True) (trivial) (fail)
              all_goals
                rename_i K5 hK5 x5
                show K5 _ _
                refine hK5 _ _ ?_
                clear hK5
                go_wp2_with fail
                refine ⟨⟨i + 1, by omega, congrArg (Value.int .i64) (by rw [HK.out]; omega), congrArg (Value.int .i64) (by rw [HI.out]; omega), hidi.out.drew⟩, ?_⟩
                show B + 6 - ((K : Int) + 1).toNat < B + 6 - (K : Int).toNat
                have := HK.out
                omega
            · have hr1' : (K : Int) % 8 = 4 := hr1
              have hr2' : (K : Int).tmod 8 = 4 := hr2
              have hq1' : (c.toNat : Int) / 8 = (q : Int) := hq1
              have hq3' : (c.toNat : Int).tdiv 8 = (q : Int) := hq3
              have hw' : ∀ W, (Instr.index 108 (.agg #[.int .i64 128, .int .i64 64, .int .i64 32, .int .i64 16, .int .i64 8, .int .i64 4, .int .i64 2, .int .i64 1]) (.int .i64 4)).run Tryz.prog W = .ok (.int .i64 8) W := hw
              clear hr1 hr2 hq1 hq3 hw wr1
              go_wp2_with fail
              go_region_held3 (fun _ => True) (trivial) (fail)
              all_goals
                rename_i K5 hK5 x5
                show K5 _ _
                refine hK5 _ _ ?_
                clear hK5
                go_wp2_with fail
                refine ⟨⟨i + 1, by omega, congrArg (Value.int .i64) (by rw [HK.out]; omega), congrArg (Value.int .i64) (by rw [HI.out]; omega), hidi.out.drew⟩, ?_⟩
                show B + 6 - ((K : Int) + 1).toNat < B + 6 - (K : Int).toNat
                have := HK.out
                omega
            · have hr1' : (K : Int) % 8 = 5 := hr1
              have hr2' : (K : Int).tmod 8 = 5 := hr2
              have hq1' : (c.toNat : Int) / 4 = (q : Int) := hq1
              have hq3' : (c.toNat : Int).tdiv 4 = (q : Int) := hq3
              have hw' : ∀ W, (Instr.index 108 (.agg #[.int .i64 128, .int .i64 64, .int .i64 32, .int .i64 16, .int .i64 8, .int .i64 4, .int .i64 2, .int .i64 1]) (.int .i64 5)).run Tryz.prog W = .ok (.int .i64 4) W := hw
              clear hr1 hr2 hq1 hq3 hw wr1
              go_wp2_with fail
              go_region_held3 (fun _ => True) (trivial) (fail)
              all_goals
                rename_i K5 hK5 x5
                show K5 _ _
                refine hK5 _ _ ?_
                clear hK5
                go_wp2_with fail
                refine ⟨⟨i + 1, by omega, congrArg (Value.int .i64) (by rw [HK.out]; omega), congrArg (Value.int .i64) (by rw [HI.out]; omega), hidi.out.drew⟩, ?_⟩
                show B + 6 - ((K : Int) + 1).toNat < B + 6 - (K : Int).toNat
                have := HK.out
                omega
            · have hr1' : (K : Int) % 8 = 6 := hr1
              have hr2' : (K : Int).tmod 8 = 6 := hr2
              have hq1' : (c.toNat : Int) / 2 = (q : Int) := hq1
              have hq3' : (c.toNat : Int).tdiv 2 = (q : Int) := hq3
              have hw' : ∀ W, (Instr.index 108 (.agg #[.int .i64 128, .int .i64 64, .int .i64 32, .int .i64 16, .int .i64 8, .int .i64 4, .int .i64 2, .int .i64 1]) (.int .i64 6)).run Tryz.prog W = .ok (.int .i64 2) W := hw
              clear hr1 hr2 hq1 hq3 hw wr1
              go_wp2_with fail
              go_region_held3 (fun _ => True) (trivial) (fail)
              all_goals
                rename_i K5 hK5 x5
                show K5 _ _
                refine hK5 _ _ ?_
                clear hK5
                go_wp2_with fail
                refine ⟨⟨i + 1, by omega, congrArg (Value.int .i64) (by rw [HK.out]; omega), congrArg (Value.int .i64) (by rw [HI.out]; omega), hidi.out.drew⟩, ?_⟩
                show B + 6 - ((K : Int) + 1).toNat < B + 6 - (K : Int).toNat
                have := HK.out
                omega
            · have hr1' : (K : Int) % 8 = 7 := hr1
              have hr2' : (K : Int).tmod 8 = 7 := hr2
              have hq1' : (c.toNat : Int) / 1 = (q : Int) := hq1
              have hq3' : (c.toNat : Int).tdiv 1 = (q : Int) := hq3
              have hw' : ∀ W, (Instr.index 108 (.agg #[.int .i64 128, .int .i64 64, .int .i64 32, .int .i64 16, .int .i64 8, .int .i64 4, .int .i64 2, .int .i64 1]) (.int .i64 7)).run Tryz.prog W = .ok (.int .i64 1) W := hw
              clear hr1 hr2 hq1 hq3 hw wr1
              go_wp2_with fail
              go_region_held3 (fun _ => True) (trivial) (fail)
              all_goals
                rename_i K5 hK5 x5
                show K5 _ _
                refine hK5 _ _ ?_
                clear hK5
                go_wp2_with fail
                refine ⟨⟨i + 1, by omega, congrArg (Value.int .i64) (by rw [HK.out]; omega), congrArg (Value.int .i64) (by rw [HI.out]; omega), hidi.out.drew⟩, ?_⟩
                show B + 6 - ((K : Int) + 1).toNat < B + 6 - (K : Int).toNat
                have := HK.out
                omega
          · have hbt : bt l K = 0 := by
              unfold bt
              rw [← hp, List.getElem?_eq_none (by rw [HLl.out]; omega)]
            have h8 : ¬ (p : Int) < (s.size : Int) := by omega
            rw [hbt] at HI
            clear hbt hp hr
            go_wp2_with fail
            refine ⟨⟨i + 1, by omega, congrArg (Value.int .i64) (by rw [HK.out]; omega), congrArg (Value.int .i64) (by rw [HI.out]; omega), hidi⟩, ?_⟩
            show B + 6 - ((K : Int) + 1).toNat < B + 6 - (K : Int).toNat
            have := HK.out
            omega
        · obtain rfl : i = 6 := by omega
          have h7 : ¬ (K : Int) < (B : Int) + 6 := by omega
          obtain ⟨v, hv⟩ : ∃ v, v = nb l B 6 := ⟨_, rfl⟩
          rw [← hv] at hn9 ⊢
          have hv64 : v < 64 := hn9
          have har := alpha_run v hv64
          have v0 : (0 : Int) ≤ v := by omega
          have v1 : (v : Int) < 64 := by omega
          have Hs := Lib.hid (show cB (((encV 0 0 l).take (j + 1)).map ch) = cB (((encV 0 0 l).take j).map ch) ++ [.int .u8 ((ch v).toNat : Int)] by
            have he := HV.out
            rw [← HB.out, ← hv] at he
            rw [List.take_add_one, he, List.map_append, cB_append]
            rfl)
          have HOw := Lib.hid (own_below hid.out.1 hidi.out)
          have HBw := Lib.hid (hid.out.2.trans (hidi.out.mono hid.out.2.size))
          have hsz := HBw.out.size
          have hB6 := HB.out
          clear hv hid hidi hn9
          generalize ch v = cc at har Hs
          go_wp2_with (at_builtin; refine wpList_appB _ rfl _ _ 38 rfl w.heap.size 5 t0 _ 1 Tryz.underlying38 hi0 hy0 hy1 hy2 rfl _ j (cB (((encV 0 0 l).take j).map ch)) rfl (own_below HOw.out (below_box _ _)) (some ⟨wr.heap.size, 0, none⟩) 1 1 [.int .u8 (cc.toNat : Int)] rfl rfl (Rd.one _ _ _) (by intro u hu; simp at hu; subst hu; rfl) (by omega) (by decide) (by rw [World.size_alloc]; omega) ?_; intro v' w' hown hgrow; obtain ⟨A2, c2, hsh2, _, _⟩ := own_slice hown; subst hsh2)
          refine ⟨⟨j + 1, by omega, congrArg (Value.int .i64) (by omega), by rw [Hs.out]; exact hown, (HBw.out.trans ((below_box _ _).mono hsz)).trans hgrow⟩, ?_⟩
          show 6 * N - ((6 : Int) * j + 6).toNat < 6 * N - (B : Int).toNat
          omega
    · obtain rfl : j = N := by omega
      have h6 : ¬ (B : Int) < 8 * (s.size : Int) := by omega
      have hcv := str_back hid.out.1
      rw [← HDl.out] at hcv
      have HBw := Lib.hid hid.out.2
      clear hid hB HG
      go_wp2_with fail
      go_ret
      exact ⟨rfl, HBw.out⟩
end Go.Proofs.YtoilcigmpeaedaaGreatDoor.B64

namespace Go.Proofs.YtoilcigmpeaedaaGreatDoor.B64
open Go.RowKit Utf

theorem pad_snoc (l : List UInt8) (j : Nat) : (⟨(l ++ List.replicate j 61).toArray⟩ : ByteArray) ++ (⟨#[61]⟩ : ByteArray) = ⟨(l ++ List.replicate (j + 1) 61).toArray⟩ := by
  rw [show (⟨#[61]⟩ : ByteArray) = ⟨[61].toArray⟩ from rfl, app_ba, List.append_assoc, List.replicate_succ']
set_option maxRecDepth 100000 in
set_option maxHeartbeats 1000000 in
theorem rencode_long (s : ByteArray) (w : World) (h : 4096 < s.size) : Calls Tryz.prog 32 #[.string s] w fun e w' => e = .returned (.tuple #[.string ⟨#[]⟩, .int .i64 3]) ∧ w' = w := by
  have h1 : (4096 : Int) < s.size := by omega
  go_enter Tryz.func32, Tryz.ntmps32
  go_wp2
  go_ret2
  exact ⟨rfl, rfl⟩
set_option maxRecDepth 100000 in
set_option maxHeartbeats 4000000 in
theorem rencode_any (s : ByteArray) (w : World) (h : s.size ≤ 4096) : Calls Tryz.prog 32 #[.string s] w fun e w' => e = .returned (.tuple #[.string ⟨(encL s.data.toList).toArray⟩, .int .i64 0]) ∧ Below w.heap.size w w' := by
  have h1 : (s.size : Int) ≤ 4096 := by omega
  obtain ⟨b, hb⟩ : ∃ b, b = bareL s.data.toList := ⟨_, rfl⟩
  obtain ⟨T0, hT0⟩ : ∃ T : ByteArray, T = ⟨b.toArray⟩ := ⟨_, rfl⟩
  obtain ⟨L, hL⟩ : ∃ L, L = b.length := ⟨_, rfl⟩
  have hTL : T0.size = L := by rw [hT0, Lib.size_mk, hL]
  have hL1 : L ≤ 20000 := by rw [hL, hb, bare_len]; simp; omega
  obtain ⟨m, hm⟩ : ∃ m, m = (4 - L % 4) % 4 := ⟨_, rfl⟩
  obtain ⟨FU, hFU⟩ : ∃ F : ByteArray, F = ⟨(encL s.data.toList).toArray⟩ := ⟨_, rfl⟩
  have HFull := Lib.hid (show FU = ⟨(b ++ List.replicate m 61).toArray⟩ by rw [hFU, encL, padL, ← hb, ← hL, ← hm])
  have HB := Lib.hid (fun W => rbare_any s W (by omega))
  rw [← hb, ← hT0] at HB
  rw [← hFU]
  have HT0 := Lib.hid hT0
  clear hFU hT0 hb hL
  go_enter Tryz.func32, Tryz.ntmps32
  go_wp2_with (go_at_call 62; refine (HB.out _).mono ?_; rintro e w1 ⟨rfl, hb1⟩)
  go_loopw [4] (fun v wr => ∃ (j : Nat) (T : ByteArray), j ≤ m ∧ v = .string T ∧ T.size = L + j ∧ Hid (T = ⟨(b ++ List.replicate j 61).toArray⟩) ∧ Hid (Below w1.heap.size w1 wr)) (fun v _ => L + 4 - Lib.strSize v)
  case atStart => exact ⟨0, T0, by omega, rfl, by omega, Lib.hid (by rw [HT0.out, List.replicate_zero, List.append_nil]), Below.refl _ _⟩
  case round =>
    obtain ⟨j, T, hj, rfl, hTs, hT, hid⟩ := hrel
    obtain ⟨e4, he4⟩ : ∃ e : Nat, e = (L + j) % 4 := ⟨_, rfl⟩
    have he5 : (T.size : Int) % 4 = (e4 : Int) := by omega
    have hl9 : ¬ 9223372036854775807 < T.size + 1 := by omega
    have hm3 : m ≤ 3 := by omega
    by_cases hjm : j < m
    · have he6 : ((e4 : Int) != 0) = true := by rw [bne_iff_ne]; omega
      obtain ⟨T2, hT2⟩ : ∃ T2 : ByteArray, T2 = T ++ ⟨#[61]⟩ := ⟨_, rfl⟩
      have hT2s : T2.size = L + (j + 1) := by rw [hT2, ByteArray.size_append, hTs]; rfl
      have HI := Lib.hid (show T2 = ⟨(b ++ List.replicate (j + 1) 61).toArray⟩ by rw [hT2, hT.out, pad_snoc])
      have HT2 := Lib.hid hT2
      have HTs := Lib.hid hTs
      clear hT2 hT hTs he4 hm hTL
      go_wp2
      rw [← HT2.out]
      refine ⟨⟨j + 1, T2, by omega, rfl, hT2s, HI, hid⟩, ?_⟩
      rw [Lib.strSize_string, Lib.strSize_string, HTs.out, hT2s]
      omega
    · obtain rfl : j = m := by omega
      have he7 : e4 = 0 := by omega
      subst he7
      have hT5 := hT.out.trans HFull.out.symm
      clear hT he4 hm hTL hl9 hjm
      subst hT5
      clear hTs
      go_wp2
      go_ret2
      exact ⟨rfl, up hb1 hid.out⟩
theorem pre_all (l : List UInt8) (vs : List Nat) (h : valsL l = some vs) : preL l = vs := by
  induction l generalizing vs with
  | nil => cases h; rfl
  | cons x r ih =>
    rw [valsL] at h
    split at h
    · rename_i u us hu hus
      cases h
      rw [preL, hu]
      simp only
      rw [ih us hus]
    · cases h
theorem pre_stop (a : List UInt8) (c : UInt8) (r : List UInt8) (vs : List Nat) (h : valsL a = some vs) (hc : vl c = none) : preL (a ++ c :: r) = vs := by
  induction a generalizing vs with
  | nil => cases h; rw [List.nil_append, preL, hc]
  | cons x a ih =>
    rw [valsL] at h
    split at h
    · rename_i u us hu hus
      cases h
      rw [List.cons_append, preL, hu]
      simp only
      rw [ih us hus]
    · cases h
theorem ref_no (l : List UInt8) (vs : List Nat) (h : preL l = vs) (h1 : l ≠ bareL (decV 0 0 vs)) (h2 : l ≠ encL (decV 0 0 vs)) : decV' l = .tuple #[.string ⟨#[]⟩, .int .i64 6] := by
  refine decV_none _ ?_
  rw [← ref_is, refL, h]
  rw [if_pos ⟨h1, h2⟩]
theorem ref_yes (l : List UInt8) (vs : List Nat) (h : preL l = vs) (h1 : l = bareL (decV 0 0 vs) ∨ l = encL (decV 0 0 vs)) : decV' l = .tuple #[.string ⟨(decV 0 0 vs).toArray⟩, .int .i64 0] := by
  refine decV_some _ _ ?_
  rw [← ref_is, refL, h]
  rw [if_neg (fun e => h1.elim e.1 e.2)]
set_option maxRecDepth 100000 in
set_option maxHeartbeats 1000000 in
theorem rdecode_long (s : ByteArray) (w : World) (h : 8192 < s.size) : Calls Tryz.prog 40 #[.string s] w fun e w' => e = .returned (.tuple #[.string ⟨#[]⟩, .int .i64 3]) ∧ w' = w := by
  have h1 : (8192 : Int) < s.size := by omega
  go_enter Tryz.func40, Tryz.ntmps40
  go_wp2
  go_ret2
  exact ⟨rfl, rfl⟩
set_option maxRecDepth 100000 in
set_option maxHeartbeats 8000000 in
theorem rdecode_any (s : ByteArray) (w : World) (h : s.size ≤ 8192) : Calls Tryz.prog 40 #[.string s] w fun e w' => e = .returned (decV' s.data.toList) ∧ Below w.heap.size w w' := by
  have h1 : (s.size : Int) ≤ 8192 := by omega
  obtain ⟨D, hD⟩ : ∃ D, D = decV' s.data.toList := ⟨_, rfl⟩
  have HD := Lib.hid hD
  rw [← hD]
  clear hD
  obtain ⟨l, hl⟩ : ∃ l, l = s.data.toList := ⟨_, rfl⟩
  have hll : l.length = s.size := by rw [hl]; simp
  have HL := Lib.hid (And.intro hl hll)
  clear hl hll
  obtain ⟨t0, hi0, hy0, hy1, hy2⟩ := info_parts infoB
  go_enter Tryz.func40, Tryz.ntmps40
  go_wp2_with fail
  go_loopw [4, 5, 6, 7] (fun nv kv ov iv wr => ∃ (i n : Nat) (vs : List Nat), i ≤ s.size ∧ n < 1048576 ∧ nv = .int .i64 (n : Int) ∧ kv = .int .i64 ((runD vs).k : Int) ∧ iv = .int .i64 (i : Int) ∧ Hid (valsL (l.take i) = some vs ∧ n % 2 ^ (runD vs).k = (runD vs).b ∧ wr.ownsRow w.heap.size 5 1 ov (runD vs).o.length (cB (runD vs).o) ∧ Below w.heap.size w wr)) (fun _ _ _ iv _ => s.size - (intOf iv).toNat)
  case atStart => exact ⟨0, 0, [], by omega, by omega, rfl, rfl, rfl, rfl, rfl, World.ownsRow_nil _ _ _ _, Below.refl _ _⟩
  case round =>
    obtain ⟨i, n, vs, hi, hn, rfl, rfl, rfl, hid⟩ := hrel
    obtain ⟨AO, co, hsh, _, _⟩ := own_slice hid.out.2.2.1
    subst hsh
    have hvs := hid.out.1
    have hnb := hid.out.2.1
    have HOw := Lib.hid hid.out.2.2.1
    have HBw := Lib.hid hid.out.2.2.2
    have hsz := HBw.out.size
    have hvl : ∀ v ∈ vs, v < 64 := (map_vals _ _ hvs).2
    have hok := runD_ok vs hvl
    have hlen := vals_len _ _ hvs
    rw [List.length_take, HL.out.2] at hlen
    clear hid
    by_cases hi2 : i < s.size
    · obtain ⟨c, hc⟩ := get_some' l i (by rw [HL.out.2]; exact hi2)
      have hx := idx_run 9 s i c (by rw [← HL.out.1]; exact hc) Tryz.underlying9
      have HV := Lib.hid (fun W => rvalue_any c W)
      have c1 : decide ((i : Int) < (s.size : Int)) = true := decide_eq_true (by omega)
      have hc1 : (c.toNat : Int) < 256 := by have := c.toNat_lt; omega
      cases hv : vl c with
      | none =>
        have hv2 : vlI c = -1 := by rw [vlI, hv]
        rw [hv2] at HV
        have hpre : preL s.data.toList = vs := by
          have e : s.data.toList = l.take i ++ c :: l.drop (i + 1) := by
            have hlt2 : i < l.length := by rw [HL.out.2]; exact hi2
            have e2 : l[i] = c := (List.getElem?_eq_some_iff.1 hc).2
            rw [← e2, ← List.drop_eq_getElem_cons hlt2, List.take_append_drop, HL.out.1]
          rw [e]; exact pre_stop _ _ _ _ hvs hv
        clear hc hv hv2 hok hnb
        obtain ⟨x, hx⟩ : ∃ x, x = (runD vs).o := ⟨_, rfl⟩
        have hxd : x = decV 0 0 vs := by rw [hx]; exact (dec_run vs hvl).1
        rw [← hx] at HOw ⊢
        obtain ⟨X, hX⟩ : ∃ X : ByteArray, X = ⟨x.toArray⟩ := ⟨_, rfl⟩
        have hXl : X.data.toList = x := by rw [hX]
        have hxlen : x.length ≤ 8192 := by rw [hx]; have := runD_len vs; omega
        have hXs : X.size ≤ 8192 := by rw [hX, Lib.size_mk]; exact hxlen
        have hcv := str_back HOw.out
        rw [← hX] at hcv
        obtain ⟨b, hb⟩ : ∃ b, b = bareL x := ⟨_, rfl⟩
        obtain ⟨T0, hT0⟩ : ∃ T : ByteArray, T = ⟨b.toArray⟩ := ⟨_, rfl⟩
        obtain ⟨L, hL⟩ : ∃ L, L = b.length := ⟨_, rfl⟩
        have hTL : T0.size = L := by rw [hT0, Lib.size_mk, hL]
        have hL1 : L ≤ 20000 := by rw [hL, hb, bare_len]; omega
        obtain ⟨m, hm⟩ : ∃ m, m = (4 - L % 4) % 4 := ⟨_, rfl⟩
        obtain ⟨FU, hFU⟩ : ∃ F : ByteArray, F = ⟨(encL x).toArray⟩ := ⟨_, rfl⟩
        have HFull := Lib.hid (show FU = ⟨(b ++ List.replicate m 61).toArray⟩ by rw [hFU, encL, padL, ← hb, ← hL, ← hm])
        have HB := Lib.hid (fun W => rbare_any X W (by omega))
        rw [hXl, ← hb, ← hT0] at HB
        have HT0 := Lib.hid hT0
        have hno : s.data.toList ≠ T0.data.toList → s.data.toList ≠ FU.data.toList → D = .tuple #[.string ⟨#[]⟩, .int .i64 6] := fun e1 e2 => by
          rw [HD.out]
          exact ref_no _ vs hpre (by rw [← hxd, ← hb]; rw [hT0] at e1; exact e1) (by rw [← hxd]; rw [hFU] at e2; exact e2)
        have hyes : s.data.toList = T0.data.toList ∨ s.data.toList = FU.data.toList → D = .tuple #[.string X, .int .i64 0] := fun e1 => by
          rw [HD.out, hX, hxd]
          exact ref_yes _ vs hpre (e1.imp (fun e => by rw [e, hT0, ← hxd, ← hb]) (fun e => by rw [e, hFU, ← hxd]))
        have HNY := Lib.hid (And.intro hno hyes)
        have HBw2 := Lib.hid HBw.out
        clear hno hyes hFU hT0 hb hL hx hxd hX hXl hxlen hpre HOw hvl hvs hlen HD
        go_wp2_with (first
          | (go_at_call 62; refine (HB.out _).mono ?_; rintro e w1 ⟨rfl, hb1⟩)
          | (go_at_call 71; refine (HV.out _).mono ?_; rintro e w9 ⟨rfl, rfl⟩))
        have HB1 := Lib.hid (HBw2.out.trans (hb1.mono HBw2.out.size))
        clear hb1 hcv
        go_loopw [10] (fun v wr => ∃ (j : Nat) (T : ByteArray), j ≤ m ∧ v = .string T ∧ T.size = L + j ∧ Hid (T = ⟨(b ++ List.replicate j 61).toArray⟩) ∧ Hid (Below w1.heap.size w1 wr)) (fun v _ => L + 4 - Lib.strSize v)
        case atStart => exact ⟨0, T0, by omega, rfl, by omega, Lib.hid (by rw [HT0.out, List.replicate_zero, List.append_nil]), Below.refl _ _⟩
        case round =>
          obtain ⟨j, T, hj, rfl, hTs, hT, hid⟩ := hrel
          obtain ⟨e4, he4⟩ : ∃ e : Nat, e = (L + j) % 4 := ⟨_, rfl⟩
          have he5 : (T.size : Int) % 4 = (e4 : Int) := by omega
          have hl9 : ¬ 9223372036854775807 < T.size + 1 := by omega
          have hm3 : m ≤ 3 := by omega
          by_cases hjm : j < m
          · have he6 : ((e4 : Int) != 0) = true := by rw [bne_iff_ne]; omega
            obtain ⟨T2, hT2⟩ : ∃ T2 : ByteArray, T2 = T ++ ⟨#[61]⟩ := ⟨_, rfl⟩
            have hT2s : T2.size = L + (j + 1) := by rw [hT2, ByteArray.size_append, hTs]; rfl
            have HI := Lib.hid (show T2 = ⟨(b ++ List.replicate (j + 1) 61).toArray⟩ by rw [hT2, hT.out, pad_snoc])
            have HT2 := Lib.hid hT2
            have HTs := Lib.hid hTs
            clear hT2 hT hTs he4 hm hTL
            go_wp2
            rw [← HT2.out]
            refine ⟨⟨j + 1, T2, by omega, rfl, hT2s, HI, hid⟩, ?_⟩
            rw [Lib.strSize_string, Lib.strSize_string, HTs.out, hT2s]
            omega
          · obtain rfl : j = m := by omega
            have he7 : e4 = 0 := by omega
            subst he7
            have hT5 := hT.out.trans HFull.out.symm
            clear hT he4 hm hTL hl9 hjm
            subst hT5
            clear hTs
            by_cases e1 : s = T0
            · have hfin := HNY.out.2 (.inl (by rw [e1]))
              have q1 : (s.toList == T0.toList) = true := by rw [e1]; simp
              clear HNY e1
              subst hfin
              go_wp2
              go_ret2
              exact ⟨rfl, HB1.out.trans (hid.out.mono HB1.out.size)⟩
            · have q1 : (s.toList == T0.toList) = false := ba_ne (fun e => e1 (ba_eq e))
              by_cases e2 : s = T
              · have hfin := HNY.out.2 (.inr (by rw [e2]))
                have q2 : (s.toList == T.toList) = true := by rw [e2]; simp
                clear HNY e1 e2
                subst hfin
                go_wp2
                go_ret2
                exact ⟨rfl, HB1.out.trans (hid.out.mono HB1.out.size)⟩
              · have q2 : (s.toList == T.toList) = false := ba_ne (fun e => e2 (ba_eq e))
                have hfin := HNY.out.1 (fun e => e1 (ba_eq e)) (fun e => e2 (ba_eq e))
                clear HNY e1 e2
                subst hfin
                go_wp2
                go_ret2
                exact ⟨rfl, HB1.out.trans (hid.out.mono HB1.out.size)⟩
      | some v =>
        have hv2 : vlI c = (v : Int) := by rw [vlI, hv]
        rw [hv2] at HV
        have hv64 := (ch_vl c v hv).1
        have hvs2 := vals_snoc _ c vs v hvs hv
        have htk : l.take (i + 1) = l.take i ++ [c] := by rw [List.take_add_one, hc]; rfl
        rw [← htk] at hvs2
        have HR := Lib.hid (runD_snoc vs v)
        have HV2 := Lib.hid hvs2
        have hlo : (runD vs).o.length ≤ 9000 := by have := runD_len vs; omega
        obtain ⟨n2, hn2⟩ : ∃ n2 : Nat, n2 = (n * 64 + v) % 1048576 := ⟨_, rfl⟩
        have hn3 : ((n : Int) * 64 + (v : Int)) % 1048576 = (n2 : Int) := by omega
        have hn4 : n2 < 1048576 := by omega
        have hv3 : (0 : Int) ≤ v := by omega
        have hge : decide ((0 : Int) ≤ (v : Int)) = true := decide_eq_true hv3
        clear hc hv hv2 hvs2 htk hvs hlen hvl
        generalize runD vs = p at hnb HOw hok HR hlo ⊢
        obtain ⟨pb, pk, po⟩ := p
        simp only at hnb HOw hlo
        rcases hok with ⟨hk, hb⟩ | ⟨hk, hb⟩ | ⟨hk, hb⟩ | ⟨hk, hb⟩
        · obtain rfl : pk = 0 := hk
          have hb0 : pb = 0 := by have : pb < 1 := hb; omega
          have hst : runD (vs ++ [v]) = ⟨v, 6, po⟩ := by rw [HR.out]; unfold stD; rw [if_pos rfl, hb0]; simp
          have HI := Lib.hid (show n2 % 2 ^ 6 = v by omega)
          clear hn2 hnb hb HR
          go_wp2_with (go_at_call 71; refine (HV.out _).mono ?_; rintro e w9 ⟨rfl, rfl⟩)
          refine ⟨⟨i + 1, n2, vs ++ [v], by omega, hn4, congrArg (Value.int .i64) hn3, by rw [hst]; rfl, by go_num, Lib.hid ⟨HV2.out, by rw [hst]; exact HI.out, by rw [hst]; exact HOw.out, HBw.out⟩⟩, ?_⟩
          show s.size - ((i : Int) + 1).toNat < s.size - (i : Int).toNat
          omega
        · obtain rfl : pk = 6 := hk
          have hb0 : pb < 64 := hb
          obtain ⟨y, hy⟩ : ∃ y, y = byt ((pb * 64 + v) / 16) := ⟨_, rfl⟩
          have hst : runD (vs ++ [v]) = ⟨(pb * 64 + v) % 16, 4, po ++ [y]⟩ := by rw [HR.out, hy]; unfold stD; rw [if_neg (by show ¬ (6 : Nat) = 0; decide), if_pos rfl]
          obtain ⟨q, hq⟩ : ∃ q : Nat, q = n2 / 16 := ⟨_, rfl⟩
          have hq1 : (n2 : Int) / 16 = (q : Int) := by omega
          have hnb' : n % 64 = pb := hnb
          have hq2 : q % 256 = (pb * 64 + v) / 16 := by omega
          have hyw : IntKind.u8.wrap (q : Int) = (y.toNat : Int) := by
            rw [IntKind.wrap_u8, hy, byt_toNat _ (by omega)]
            omega
          have HI := Lib.hid (show n2 % 2 ^ 4 = (pb * 64 + v) % 16 by omega)
          have Hs := Lib.hid (cB_snoc po y)
          clear hn2 hnb hnb' hb HR hq hq2 hy
          go_wp2_with (first
            | (go_at_call 71; refine (HV.out _).mono ?_; rintro e w9 ⟨rfl, rfl⟩)
            | (at_builtin; refine wpList_appB _ rfl _ _ 38 rfl w.heap.size 5 t0 _ 1 Tryz.underlying38 hi0 hy0 hy1 hy2 rfl _ po.length (cB po) rfl (own_below HOw.out (below_box _ _)) (some ⟨_, 0, none⟩) 1 1 [.int .u8 (y.toNat : Int)] rfl rfl (Rd.one _ _ _) (by intro u hu; simp at hu; subst hu; rfl) (by omega) (by decide) (by rw [World.size_alloc]; omega) ?_; intro v' w' hown hgrow; obtain ⟨A2, c2, hsh2, _, _⟩ := own_slice hown; subst hsh2; rw [Hs.out] at hown))
          refine ⟨⟨i + 1, n2, vs ++ [v], by omega, hn4, rfl, by rw [hst]; rfl, by go_num, Lib.hid ⟨HV2.out, by rw [hst]; exact HI.out, by rw [hst, List.length_append, List.length_singleton]; exact hown, (HBw.out.trans ((below_box _ _).mono hsz)).trans hgrow⟩⟩, ?_⟩
          show s.size - ((i : Int) + 1).toNat < s.size - (i : Int).toNat
          omega
        · obtain rfl : pk = 4 := hk
          have hb0 : pb < 16 := hb
          obtain ⟨y, hy⟩ : ∃ y, y = byt ((pb * 64 + v) / 4) := ⟨_, rfl⟩
          have hst : runD (vs ++ [v]) = ⟨(pb * 64 + v) % 4, 2, po ++ [y]⟩ := by rw [HR.out, hy]; unfold stD; rw [if_neg (by show ¬ (4 : Nat) = 0; decide), if_neg (by show ¬ (4 : Nat) = 6; decide), if_pos rfl]
          obtain ⟨q, hq⟩ : ∃ q : Nat, q = n2 / 4 := ⟨_, rfl⟩
          have hq1 : (n2 : Int) / 4 = (q : Int) := by omega
          have hnb' : n % 16 = pb := hnb
          have hq2 : q % 256 = (pb * 64 + v) / 4 := by omega
          have hyw : IntKind.u8.wrap (q : Int) = (y.toNat : Int) := by
            rw [IntKind.wrap_u8, hy, byt_toNat _ (by omega)]
            omega
          have HI := Lib.hid (show n2 % 2 ^ 2 = (pb * 64 + v) % 4 by omega)
          have Hs := Lib.hid (cB_snoc po y)
          clear hn2 hnb hnb' hb HR hq hq2 hy
          go_wp2_with (first
            | (go_at_call 71; refine (HV.out _).mono ?_; rintro e w9 ⟨rfl, rfl⟩)
            | (at_builtin; refine wpList_appB _ rfl _ _ 38 rfl w.heap.size 5 t0 _ 1 Tryz.underlying38 hi0 hy0 hy1 hy2 rfl _ po.length (cB po) rfl (own_below HOw.out (below_box _ _)) (some ⟨_, 0, none⟩) 1 1 [.int .u8 (y.toNat : Int)] rfl rfl (Rd.one _ _ _) (by intro u hu; simp at hu; subst hu; rfl) (by omega) (by decide) (by rw [World.size_alloc]; omega) ?_; intro v' w' hown hgrow; obtain ⟨A2, c2, hsh2, _, _⟩ := own_slice hown; subst hsh2; rw [Hs.out] at hown))
          refine ⟨⟨i + 1, n2, vs ++ [v], by omega, hn4, rfl, by rw [hst]; rfl, by go_num, Lib.hid ⟨HV2.out, by rw [hst]; exact HI.out, by rw [hst, List.length_append, List.length_singleton]; exact hown, (HBw.out.trans ((below_box _ _).mono hsz)).trans hgrow⟩⟩, ?_⟩
          show s.size - ((i : Int) + 1).toNat < s.size - (i : Int).toNat
          omega
        · obtain rfl : pk = 2 := hk
          have hb0 : pb < 4 := hb
          obtain ⟨y, hy⟩ : ∃ y, y = byt ((pb * 64 + v)) := ⟨_, rfl⟩
          have hst : runD (vs ++ [v]) = ⟨0, 0, po ++ [y]⟩ := by rw [HR.out, hy]; unfold stD; rw [if_neg (by show ¬ (2 : Nat) = 0; decide), if_neg (by show ¬ (2 : Nat) = 6; decide), if_neg (by show ¬ (2 : Nat) = 4; decide)]
          obtain ⟨q, hq⟩ : ∃ q : Nat, q = n2 / 1 := ⟨_, rfl⟩
          have hq1 : (n2 : Int) / 1 = (q : Int) := by omega
          have hnb' : n % 4 = pb := hnb
          have hq2 : q % 256 = (pb * 64 + v) := by omega
          have hyw : IntKind.u8.wrap (q : Int) = (y.toNat : Int) := by
            rw [IntKind.wrap_u8, hy, byt_toNat _ (by omega)]
            omega
          have HI := Lib.hid (show n2 % 2 ^ 0 = 0 by omega)
          have Hs := Lib.hid (cB_snoc po y)
          clear hn2 hnb hnb' hb HR hq hq2 hy
          go_wp2_with (first
            | (go_at_call 71; refine (HV.out _).mono ?_; rintro e w9 ⟨rfl, rfl⟩)
            | (at_builtin; refine wpList_appB _ rfl _ _ 38 rfl w.heap.size 5 t0 _ 1 Tryz.underlying38 hi0 hy0 hy1 hy2 rfl _ po.length (cB po) rfl (own_below HOw.out (below_box _ _)) (some ⟨_, 0, none⟩) 1 1 [.int .u8 (y.toNat : Int)] rfl rfl (Rd.one _ _ _) (by intro u hu; simp at hu; subst hu; rfl) (by omega) (by decide) (by rw [World.size_alloc]; omega) ?_; intro v' w' hown hgrow; obtain ⟨A2, c2, hsh2, _, _⟩ := own_slice hown; subst hsh2; rw [Hs.out] at hown))
          refine ⟨⟨i + 1, n2, vs ++ [v], by omega, hn4, rfl, by rw [hst]; rfl, by go_num, Lib.hid ⟨HV2.out, by rw [hst]; exact HI.out, by rw [hst, List.length_append, List.length_singleton]; exact hown, (HBw.out.trans ((below_box _ _).mono hsz)).trans hgrow⟩⟩, ?_⟩
          show s.size - ((i : Int) + 1).toNat < s.size - (i : Int).toNat
          omega
    · have c1 : decide ((i : Int) < (s.size : Int)) = false := decide_eq_false (by omega)
      have hpre : preL s.data.toList = vs := by
        rw [← HL.out.1]
        rw [List.take_of_length_le (by rw [HL.out.2]; omega)] at hvs
        exact pre_all _ _ hvs
      clear hok hnb
      obtain ⟨x, hx⟩ : ∃ x, x = (runD vs).o := ⟨_, rfl⟩
      have hxd : x = decV 0 0 vs := by rw [hx]; exact (dec_run vs hvl).1
      rw [← hx] at HOw ⊢
      obtain ⟨X, hX⟩ : ∃ X : ByteArray, X = ⟨x.toArray⟩ := ⟨_, rfl⟩
      have hXl : X.data.toList = x := by rw [hX]
      have hxlen : x.length ≤ 8192 := by rw [hx]; have := runD_len vs; omega
      have hXs : X.size ≤ 8192 := by rw [hX, Lib.size_mk]; exact hxlen
      have hcv := str_back HOw.out
      rw [← hX] at hcv
      obtain ⟨b, hb⟩ : ∃ b, b = bareL x := ⟨_, rfl⟩
      obtain ⟨T0, hT0⟩ : ∃ T : ByteArray, T = ⟨b.toArray⟩ := ⟨_, rfl⟩
      obtain ⟨L, hL⟩ : ∃ L, L = b.length := ⟨_, rfl⟩
      have hTL : T0.size = L := by rw [hT0, Lib.size_mk, hL]
      have hL1 : L ≤ 20000 := by rw [hL, hb, bare_len]; omega
      obtain ⟨m, hm⟩ : ∃ m, m = (4 - L % 4) % 4 := ⟨_, rfl⟩
      obtain ⟨FU, hFU⟩ : ∃ F : ByteArray, F = ⟨(encL x).toArray⟩ := ⟨_, rfl⟩
      have HFull := Lib.hid (show FU = ⟨(b ++ List.replicate m 61).toArray⟩ by rw [hFU, encL, padL, ← hb, ← hL, ← hm])
      have HB := Lib.hid (fun W => rbare_any X W (by omega))
      rw [hXl, ← hb, ← hT0] at HB
      have HT0 := Lib.hid hT0
      have hno : s.data.toList ≠ T0.data.toList → s.data.toList ≠ FU.data.toList → D = .tuple #[.string ⟨#[]⟩, .int .i64 6] := fun e1 e2 => by
        rw [HD.out]
        exact ref_no _ vs hpre (by rw [← hxd, ← hb]; rw [hT0] at e1; exact e1) (by rw [← hxd]; rw [hFU] at e2; exact e2)
      have hyes : s.data.toList = T0.data.toList ∨ s.data.toList = FU.data.toList → D = .tuple #[.string X, .int .i64 0] := fun e1 => by
        rw [HD.out, hX, hxd]
        exact ref_yes _ vs hpre (e1.imp (fun e => by rw [e, hT0, ← hxd, ← hb]) (fun e => by rw [e, hFU, ← hxd]))
      have HNY := Lib.hid (And.intro hno hyes)
      have HBw2 := Lib.hid HBw.out
      clear hno hyes hFU hT0 hb hL hx hxd hX hXl hxlen hpre HOw hvl hvs hlen HD
      go_wp2_with (first
        | (go_at_call 62; refine (HB.out _).mono ?_; rintro e w1 ⟨rfl, hb1⟩))
      have HB1 := Lib.hid (HBw2.out.trans (hb1.mono HBw2.out.size))
      clear hb1 hcv
      go_loopw [10] (fun v wr => ∃ (j : Nat) (T : ByteArray), j ≤ m ∧ v = .string T ∧ T.size = L + j ∧ Hid (T = ⟨(b ++ List.replicate j 61).toArray⟩) ∧ Hid (Below w1.heap.size w1 wr)) (fun v _ => L + 4 - Lib.strSize v)
      case atStart => exact ⟨0, T0, by omega, rfl, by omega, Lib.hid (by rw [HT0.out, List.replicate_zero, List.append_nil]), Below.refl _ _⟩
      case round =>
        obtain ⟨j, T, hj, rfl, hTs, hT, hid⟩ := hrel
        obtain ⟨e4, he4⟩ : ∃ e : Nat, e = (L + j) % 4 := ⟨_, rfl⟩
        have he5 : (T.size : Int) % 4 = (e4 : Int) := by omega
        have hl9 : ¬ 9223372036854775807 < T.size + 1 := by omega
        have hm3 : m ≤ 3 := by omega
        by_cases hjm : j < m
        · have he6 : ((e4 : Int) != 0) = true := by rw [bne_iff_ne]; omega
          obtain ⟨T2, hT2⟩ : ∃ T2 : ByteArray, T2 = T ++ ⟨#[61]⟩ := ⟨_, rfl⟩
          have hT2s : T2.size = L + (j + 1) := by rw [hT2, ByteArray.size_append, hTs]; rfl
          have HI := Lib.hid (show T2 = ⟨(b ++ List.replicate (j + 1) 61).toArray⟩ by rw [hT2, hT.out, pad_snoc])
          have HT2 := Lib.hid hT2
          have HTs := Lib.hid hTs
          clear hT2 hT hTs he4 hm hTL
          go_wp2
          rw [← HT2.out]
          refine ⟨⟨j + 1, T2, by omega, rfl, hT2s, HI, hid⟩, ?_⟩
          rw [Lib.strSize_string, Lib.strSize_string, HTs.out, hT2s]
          omega
        · obtain rfl : j = m := by omega
          have he7 : e4 = 0 := by omega
          subst he7
          have hT5 := hT.out.trans HFull.out.symm
          clear hT he4 hm hTL hl9 hjm
          subst hT5
          clear hTs
          by_cases e1 : s = T0
          · have hfin := HNY.out.2 (.inl (by rw [e1]))
            have q1 : (s.toList == T0.toList) = true := by rw [e1]; simp
            clear HNY e1
            subst hfin
            go_wp2
            go_ret2
            exact ⟨rfl, HB1.out.trans (hid.out.mono HB1.out.size)⟩
          · have q1 : (s.toList == T0.toList) = false := ba_ne (fun e => e1 (ba_eq e))
            by_cases e2 : s = T
            · have hfin := HNY.out.2 (.inr (by rw [e2]))
              have q2 : (s.toList == T.toList) = true := by rw [e2]; simp
              clear HNY e1 e2
              subst hfin
              go_wp2
              go_ret2
              exact ⟨rfl, HB1.out.trans (hid.out.mono HB1.out.size)⟩
            · have q2 : (s.toList == T.toList) = false := ba_ne (fun e => e2 (ba_eq e))
              have hfin := HNY.out.1 (fun e => e1 (ba_eq e)) (fun e => e2 (ba_eq e))
              clear HNY e1 e2
              subst hfin
              go_wp2
              go_ret2
              exact ⟨rfl, HB1.out.trans (hid.out.mono HB1.out.size)⟩

end Go.Proofs.YtoilcigmpeaedaaGreatDoor.B64
