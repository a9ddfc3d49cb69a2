/-
  StaAm
-/
import Derived.Deep.RegionHeld3
import Derived.Deep.RegionWith
import Derived.Test.YtmboekpomjgnnaaGreatDoorF7
import Derived.Test.YtmboekpomjgnnaaGreatDoorF11
import Derived.Test.YtmboekpomjgnnaaGreatDoorF22
import Derived.Test.YtmboekpomjgnnaaGreatDoorF49
namespace Go.Proofs.YtmboekpomjgnnaaGreatDoor.Sta
open Go.RowKit Utf Par

theorem load_ev7 (w : World) (b : Nat) (x0 x1 x2 x3 x4 x5 x6 : Value) (h : Box w b [x0, x1, x2, x3, x4, x5, x6]) : (loadVar 27 ⟨b, 0, none⟩).run Tryz.prog w = .ok (.agg #[x0, x1, x2, x3, x4, x5, x6]) w :=
  (run_loadVar_mid w b 0 27 [x0, x1, x2, x3, x4, x5, x6] _ h.2.1 Tryz.underlying27 rfl (by kernel_rfl)).trans rfl
theorem lprint_any (c : Int) (w : World) : Calls Tryz.prog 28 #[.int .i64 c] w fun e w' => e = .returned (.agg #[.int .i64 1, .int .i64 c, .int .u8 0, .int .u8 0, .slice none 0 0, .string ⟨#[]⟩, .string ⟨#[]⟩]) ∧ Below w.heap.size w w' := by
  go_enter Tryz.func28, Tryz.ntmps28
  go_wp2
  refine bodyPost_ret (ret_cell1 rfl _ _ ⟨w.heap.size, 0, none⟩ _ rfl (load_ev7 _ _ _ _ _ _ _ _ _ (Box.new _ _ _))) rfl ?_
  exact ⟨rfl, below_box _ _⟩
theorem lesc_any (s : ByteArray) (f : Int) (w : World) : Calls Tryz.prog 29 #[.string s, .int .u8 f] w fun e w' => e = .returned (.agg #[.int .i64 3, .int .i64 0, .int .u8 0, .int .u8 f, .slice none 0 0, .string s, .string ⟨#[]⟩]) ∧ Below w.heap.size w w' := by
  go_enter Tryz.func29, Tryz.ntmps29
  go_wp2
  refine bodyPost_ret (ret_cell1 rfl _ _ ⟨w.heap.size, 0, none⟩ _ rfl (load_ev7 _ _ _ _ _ _ _ _ _ (Box.new _ _ _))) rfl ?_
  exact ⟨rfl, below_box _ _⟩
theorem losc_any (s : ByteArray) (w : World) : Calls Tryz.prog 30 #[.string s] w fun e w' => e = .returned (.agg #[.int .i64 5, .int .i64 0, .int .u8 0, .int .u8 0, .slice none 0 0, .string ⟨#[]⟩, .string s]) ∧ Below w.heap.size w w' := by
  go_enter Tryz.func30, Tryz.ntmps30
  go_wp2
  refine bodyPost_ret (ret_cell1 rfl _ _ ⟨w.heap.size, 0, none⟩ _ rfl (load_ev7 _ _ _ _ _ _ _ _ _ (Box.new _ _ _))) rfl ?_
  exact ⟨rfl, below_box _ _⟩
/-- it lies elsewhere than the row v -/
def Nb (B : Nat) (w : World) (v x : Value) : Prop := ∀ ad n c, x = .slice (some ad) n c → some ad.block ≠ v.ownBlock ∧ ad.block < w.heap.size ∧ B ≤ ad.block
theorem RI.grownBy {w w' : World} {x : Value} {zs : List Int} {row : Option Nat} (h : RI w x zs) (hg : w.grownBy w' row) (hn : ∀ ad n c, x = .slice (some ad) n c → some ad.block ≠ row) : RI w' x zs := by
  obtain ⟨A, c, rfl, h2, h3, h4, h5⟩ := h
  exact ⟨A, c, rfl, h2, h3, h4, h5.grownBy hg (fun ad e => hn ad _ _ (by rw [e]))⟩
set_option maxRecDepth 100000 in
set_option maxHeartbeats 4000000 in
theorem lparams_any (A : Option Addr) (n c : Nat) (zs : List Int) (w : World) (hn : n = zs.length) (hr : Rd w A (cI zs)) (hl : n ≤ 1000) :
    Calls Tryz.prog 26 #[.slice A n c] w fun e w' => ∃ v, e = .returned v ∧ (RL w' v (zs.map fun z => [z]) ∧ LX (fun k => w.heap.size ≤ k) v ∧ PL (LX (fun k => w.heap.size ≤ k)) w' v) ∧ Below w.heap.size w w' := by
  obtain ⟨i0, hi0, hz0, hz1, hz2⟩ := info_parts infoP
  have HN := Lib.hid hn
  have HR := Lib.hid hr
  clear hn hr
  go_enter Tryz.func26, Tryz.ntmps26
  go_wp2
  go_loopw [3, 4] (fun u i wr => ∃ k : Nat, k ≤ n ∧ i = .int .i64 k ∧ Hid (∃ us, wr.ownsRow w.heap.size 51 1 u k us ∧ us.length = k ∧ (∀ (j : Nat) (x : Value) (z : Int), us[j]? = some x → zs[j]? = some z → RI wr x [z] ∧ Nb w.heap.size wr u x) ∧ Below w.heap.size w wr)) (fun _ i _ => n - (intOf i).toNat)
  case atStart => exact ⟨0, Nat.zero_le _, rfl, [], World.ownsRow_nil _ _ _ _, rfl, (fun j x z h => by simp at h), Below.refl _ _⟩
  case round =>
    obtain ⟨k, hk, rfl, hid⟩ := hrel
    by_cases hlt : k < n
    · obtain ⟨us, hown, hul, hri, hb⟩ := hid.out
      obtain ⟨z, hz⟩ := get_some zs k (by rw [← HN.out]; exact hlt)
      obtain ⟨ad, hA, _, hcell⟩ := (HR.out.below hb) k _ (cI_at zs k z hz)
      subst hA
      obtain ⟨Au, cu, hu, _, _⟩ := own_slice hown
      subst hu
      have HO := Lib.hid (own_below hown (up (below_box wr (.cells #[.int .i64 z] 3)) (below_box _ (.cells #[.slice (some ⟨wr.heap.size, 0, none⟩) 1 1] 51))))
      have hrd := Rd.one (wr.alloc (.cells #[.int .i64 z] 3)) (.slice (some ⟨wr.heap.size, 0, none⟩) 1 1) 51
      rw [World.size_alloc] at hrd
      have HRD := Lib.hid hrd
      have hri2 := RI.lit wr [z] 1 rfl (by decide) 3
      have HRI := Lib.hid hri
      have HRZ := Lib.hid (hri2.keep (below_box _ (.cells #[.slice (some ⟨wr.heap.size, 0, none⟩) 1 1] 51)))
      have HB := Lib.hid hb
      have HUL := Lib.hid hul
      have HZ := Lib.hid hz
      have hws : w.heap.size ≤ wr.heap.size := hb.size
      have HOB := Lib.hid (fun g hg => (hown.lt g hg))
      have HSZ := Lib.hid (show w.heap.size ≤ ((wr.alloc (.cells #[.int .i64 z] 3)).alloc (.cells #[.slice (some ⟨wr.heap.size, 0, none⟩) 1 1] 51)).heap.size by rw [World.size_alloc, World.size_alloc]; omega)
      clear hown hul hri hb hid hrd hri2 hz
      have i1 : (0 : Int) ≤ (k : Int) := by omega
      have i2 : (k : Int) < (n : Int) := by omega
      go_wp2_with (at_builtin; refine wpList_app _ rfl (.tmp 11) (.tmp 18) 23 rfl w.heap.size 51 i0 _ 24 Tryz.underlying23 hi0 hz0 hz1 hz2 rfl _ k us rfl HO.out (some ⟨wr.heap.size + 1, 0, none⟩) 1 1 [.slice (some ⟨wr.heap.size, 0, none⟩) 1 1] rfl rfl HRD.out (by intro u hu; simp at hu; subst hu; rfl) (by omega) (by omega) HSZ.out ?_; intro v' w' hown' hg' hn'; have HO' := Lib.hid hown'; have HG' := Lib.hid hg'; have HN' := Lib.hid hn'; clear hown' hg' hn'; obtain ⟨Av, cv, hv, _, _⟩ := own_slice HO'.out; subst hv)
      go_roundw
      case rel =>
        refine ⟨k + 1, by omega, by go_num, us ++ [.slice (some ⟨wr.heap.size, 0, none⟩) 1 1], HO'.out, by simp [HUL.out], fun j x z' hj hz' => ?_, ?_⟩
        · have hk2 : Below wr.heap.size wr ((wr.alloc (.cells #[.int .i64 z] 3)).alloc (.cells #[.slice (some ⟨wr.heap.size, 0, none⟩) 1 1] 51)) := up (below_box wr _) (below_box _ _)
          have hsz : ((wr.alloc (.cells #[.int .i64 z] 3)).alloc (.cells #[.slice (some ⟨wr.heap.size, 0, none⟩) 1 1] 51)).heap.size = wr.heap.size + 1 + 1 := by rw [World.size_alloc, World.size_alloc]
          have hgz := HG'.out.size
          have new : ∀ ad : Addr, ad.block < wr.heap.size + 1 → some ad.block ≠ (Value.slice Au k cu).ownBlock → w.heap.size ≤ ad.block → some ad.block ≠ (Value.slice Av (k + 1) cv).ownBlock ∧ ad.block < w'.heap.size ∧ w.heap.size ≤ ad.block := fun ad h1 h2 h3 => by
            refine ⟨?_, by omega, h3⟩
            rcases HN'.out with e | e
            · rw [e]; exact h2
            · rw [e]; intro x; injection x with x; omega
          have old : some wr.heap.size ≠ (Value.slice Au k cu).ownBlock := fun e => by have := (HOB.out _ e.symm).2; omega
          rcases Nat.lt_or_ge j us.length with h | h
          · rw [List.getElem?_append_left h] at hj
            obtain ⟨r1, r2⟩ := HRI.out j x z' hj hz'
            exact ⟨RI.grownBy (r1.keep hk2) HG'.out (fun ad m d e => (r2 ad m d e).1), fun ad m d e => new ad (by have := (r2 ad m d e).2.1; omega) (r2 ad m d e).1 (r2 ad m d e).2.2⟩
          · rw [List.getElem?_append_right h] at hj
            have hj0 : j = k := by
              have := (List.getElem?_eq_some_iff.1 hj).1
              have := HUL.out
              simp at *
              omega
            subst hj0
            rw [HUL.out, Nat.sub_self] at hj
            simp at hj
            subst hj
            rw [HZ.out] at hz'
            cases hz'
            exact ⟨RI.grownBy HRZ.out HG'.out (fun ad m d e => by cases e; exact old), fun ad m d e => by cases e; exact new ⟨wr.heap.size, 0, none⟩ (by show wr.heap.size < _; omega) old hws⟩
        · exact (HB.out.trans ((up (below_box wr _) (below_box _ _)).mono hws)).grown HG'.out HSZ.out (fun g hg => (HOB.out g hg).1)
      case measure => simp [intOf]; omega
    · obtain ⟨us, hown, hul, hri, hb⟩ := hid.out
      obtain ⟨Au, cu, hu, _, _⟩ := own_slice hown
      subst hu
      have hkn : k = n := by omega
      have HF := Lib.hid (show RL wr (.slice Au k cu) (zs.map fun z => [z]) from RL.grew hown (by rw [List.length_map, hul, hkn, HN.out]) (fun j x p hx hp => by
        rw [List.getElem?_map] at hp
        cases hz : zs[j]? with
        | none => rw [hz] at hp; cases hp
        | some z => rw [hz] at hp; cases hp; exact (hri j x z hx hz).1))
      have HLX := Lib.hid (show LX (fun k => w.heap.size ≤ k) (.slice Au k cu) ∧ PL (LX (fun k => w.heap.size ≤ k)) wr (.slice Au k cu) from by
        refine ⟨fun ad n c e _ => Hi.own hown ad n c e, fun A' n' c' j x e hj hx ad m d e' _ => ?_⟩
        cases e
        rcases hown.2 with ⟨hv, h0⟩ | ⟨g, cap, cur, hv, _⟩
        · cases hv
        · cases hv
          obtain ⟨y, hy⟩ := get_some us j (by omega)
          have hc := hown.cells (g := g) rfl j y hy
          rw [hx] at hc
          injection hc with hc
          subst hc
          obtain ⟨z, hz⟩ := get_some zs j (by rw [← HN.out]; omega)
          exact ((hri j x z hy hz).2 ad m d e').2.2)
      have HB := Lib.hid hb
      clear hown hul hri hb hid hkn
      go_wp2
      go_ret
      exact ⟨_, rfl, ⟨HF.out, HLX.out⟩, HB.out⟩
theorem lx_box {B N : Nat} {v : Value} (h : LX (fun k => N ≤ k) v) (hB : B < N) : Off (fun k => N ≤ k) B none v := fun ad n c e h0 => by
  have h1 : N ≤ ad.block := h ad n c e h0
  exact ⟨by omega, by simp, h1⟩
/-- an event whose parameters are new -/
def NewQ (N : Nat) (w : World) (A : Option Addr) (n c : Nat) (l : List (List Int)) : Prop := RL w (.slice A n c) l ∧ LX (fun k => N ≤ k) (.slice A n c) ∧ PL (LX (fun k => N ≤ k)) w (.slice A n c)
set_option maxRecDepth 100000 in
set_option maxHeartbeats 4000000 in
theorem lcsi_any (f : Int) (A : Option Addr) (n c : Nat) (zs : List Int) (w : World) (hn : n = zs.length) (hr : Rd w A (cI zs)) (hl : n ≤ 1000) :
    Calls Tryz.prog 25 #[.int .u8 f, .slice A n c] w fun e w' => ∃ Aq nq cq, e = .returned (.agg #[.int .i64 4, .int .i64 0, .int .u8 0, .int .u8 f, .slice Aq nq cq, .string ⟨#[]⟩, .string ⟨#[]⟩]) ∧ RL w' (.slice Aq nq cq) (zs.map fun z => [z]) ∧ Below w.heap.size w w' := by
  have hb1 := below_box w (.cells #[.int .i64 0, .int .i64 0, .int .u8 0, .int .u8 0, .slice none 0 0, .string ⟨#[]⟩, .string ⟨#[]⟩] 27)
  have hx1 := Box.new w #[.int .i64 0, .int .i64 0, .int .u8 0, .int .u8 0, .slice none 0 0, .string ⟨#[]⟩, .string ⟨#[]⟩] 27
  have HC := Lib.hid (lparams_any A n c zs _ hn (hr.below hb1) hl)
  have HB1 := Lib.hid hb1
  have HX1 := Lib.hid hx1
  clear hb1 hx1 hn hr
  generalize (zs.map fun z => [z]) = L at HC ⊢
  go_enter Tryz.func25, Tryz.ntmps25
  go_wp2_with (go_at_call 26; refine HC.out.mono ?_; rintro e w3 ⟨v, rfl, ⟨hr3, hl3, hp3⟩, hb3⟩; have hx3 := HX1.out.keep hb3; have z0 := hx3.cell 0 _ rfl; have v0 := hx3.free 0 (by show 0 < 7; decide); have z1 := hx3.cell 1 _ rfl; have v1 := hx3.free 1 (by show 1 < 7; decide); have z2 := hx3.cell 2 _ rfl; have v2 := hx3.free 2 (by show 2 < 7; decide); have z3 := hx3.cell 3 _ rfl; have v3 := hx3.free 3 (by show 3 < 7; decide); have z4 := hx3.cell 4 _ rfl; have v4 := hx3.free 4 (by show 4 < 7; decide); have z5 := hx3.cell 5 _ rfl; have v5 := hx3.free 5 (by show 5 < 7; decide); have z6 := hx3.cell 6 _ rfl; have v6 := hx3.free 6 (by show 6 < 7; decide); have HX3 := Lib.hid hx3; clear hx3; have HQ3 := Lib.hid (show RLx (fun k => w.heap.size + 1 ≤ k) w.heap.size none w3 v L from (by rw [World.size_alloc] at hl3 hp3; exact ⟨hr3, lx_box hl3 (by omega), fun A n c j x e hj hx => lx_box (hp3 A n c j x e hj hx) (by omega)⟩)); obtain ⟨Aq, cq, hv⟩ := hr3.form; subst hv; have HB3 := Lib.hid hb3; clear hr3 hl3 hp3 hb3; generalize L.length = nq at HQ3 ⊢)
  have gs := ((((((grown_set w3 w.heap.size 0 (.int .i64 4)).trans (grown_set _ w.heap.size 1 (.int .i64 0))).trans (grown_set _ w.heap.size 2 (.int .u8 0))).trans (grown_set _ w.heap.size 3 (.int .u8 f))).trans (grown_set _ w.heap.size 4 (.slice Aq nq cq))).trans (grown_set _ w.heap.size 5 (.string ⟨#[]⟩))).trans (grown_set _ w.heap.size 6 (.string ⟨#[]⟩))
  have hfr := Frm.of_set (g := none) gs (Nat.le_of_lt HX3.out.1)
  refine bodyPost_ret (ret_cell1 rfl _ _ ⟨w.heap.size, 0, none⟩ _ rfl (load_ev7 _ _ _ _ _ _ _ _ _ (((((((Box.set HX3.out 0 _).set 1 _).set 2 _).set 3 _).set 4 _).set 5 _).set 6 _))) rfl ?_
  exact ⟨_, _, _, rfl, (RLx.frm HQ3.out hfr).1, (HB1.out.trans (HB3.out.mono HB1.out.size)).grown gs (Nat.le_of_lt HX3.out.1) (fun k hk => by cases hk; exact Nat.le_refl _)⟩
end Go.Proofs.YtmboekpomjgnnaaGreatDoor.Sta
namespace Go.Proofs.YtmboekpomjgnnaaGreatDoor.Sta
open Go.RowKit Utf Par

theorem may_kq {p : PS} (h : mayS p = true) : Kq p.ps := by
  cases hb : p.bad with
  | true =>
    obtain ⟨e, _⟩ := may_bad h hb
    rw [e]
    exact ⟨by show (0 : Nat) ≤ _; omega, by intro x hx; cases hx⟩
  | false =>
    obtain ⟨h1, h2, _⟩ := bad_no ((may_good hb).1 h).ps
    exact ⟨by omega, fun x hx => by have := h2 x hx; omega⟩
theorem kq_nil : Kq [] := ⟨by simp, by simp⟩
theorem one_ps (p : PS) (b : UInt8) : ∀ e ∈ (oneS p b).2, e.ps = [] ∨ e.ps = p.ps := by
  have hg : ∀ c : UInt8, ∀ e ∈ (grdS c).2, e.ps = [] := fun c e he => by
    unfold grdS at he
    repeat' split at he
    all_goals simp at he
    all_goals subst he; rfl
  have hc : ∀ (cs : List Int) (r : PS × List EV), (∀ e ∈ r.2, e.ps = []) → ∀ e ∈ (cs.foldl codS r).2, e.ps = [] := by
    intro cs
    induction cs with
    | nil => intro r h; exact h
    | cons c cs ih =>
      intro r h
      refine ih _ ?_
      unfold codS
      split
      · intro e he
        rcases List.mem_append.1 he with x | x
        · exact h e x
        · exact hg _ e x
      · split
        · intro e he
          rcases List.mem_append.1 he with x | x
          · exact h e x
          · simp at x; subst x; rfl
        · exact h
  have hp : ∀ u, ∀ e ∈ (prtS u b).2, e.ps = [] := fun u => by
    rw [prt_is]
    exact hc _ _ (by simp [stD])
  have ht : ∀ (q : PS) (x : EV), (x.ps = [] ∨ x.ps = q.ps) → ∀ e ∈ (tolS q x).2, e.ps = [] ∨ e.ps = q.ps := fun q x hx e he => by
    unfold tolS at he
    split at he
    · simp at he
    · simp at he; subst he; exact hx
  have hs : ∀ e ∈ (escS b).2, e.ps = [] := fun e he => by
    unfold escS at he
    repeat' split at he
    all_goals simp at he
    all_goals subst he; rfl
  have hf : ∀ e ∈ (finS p b).2, e.ps = [] ∨ e.ps = p.ps := fun e he => by
    unfold finS at he
    split at he
    · exact ht p _ (.inr rfl) e he
    · split at he <;> simp at he
  intro e he
  unfold oneS at he
  split at he
  · exact .inl (hp _ e he)
  · split at he
    · simp at he
    · split at he
      · split at he <;> simp at he
      · split at he
        · unfold endS at he
          split at he
          · unfold escB at he
            split at he
            · exact .inl (hp _ e he)
            · split at he
              · simp at he; subst he; exact .inl rfl
              · split at he
                · simp at he
                · exact .inl (hs e he)
          · split at he
            · exact ht p _ (.inl rfl) e he
            · split at he
              · exact ht p _ (.inr rfl) e he
              · simp at he
        · split at he
          · unfold witS at he
            split at he
            · exact ht p _ (.inl rfl) e he
            · split at he
              · simp at he
              · split at he <;> simp at he
          · split at he
            · exact .inl (hp _ e he)
            · split at he
              · split at he
                · simp at he; subst he; exact .inl rfl
                · simp at he
              · split at he
                · simp at he
                · unfold goeS at he
                  repeat' split at he
                  all_goals first
                    | exact .inl (hs e he)
                    | exact hf e he
                    | exact ht p _ (.inl rfl) e he
                    | (simp at he; done)
                    | (simp at he; subst he; exact .inl rfl)
theorem run_kv (s : List UInt8) : ∀ r : PS × List EV, mayS r.1 = true → Kv r.2 → Kv (runS r s).2 := by
  induction s with
  | nil => intro r _ h; exact h
  | cons b s ih =>
    intro r hm hk
    refine ih _ (tak_is b hm).2 (fun e he => ?_)
    rcases List.mem_append.1 he with x | x
    · exact hk e x
    · rcases one_ps r.1 b e x with y | y
      · rw [y]; exact kq_nil
      · rw [y]; exact may_kq hm
theorem fed_kv (p : PS) (s : List UInt8) : Kv (fedS p s).2.1 ∧ Kq (fedS p s).1.ps := by
  unfold fedS
  split
  · rename_i h
    split
    · exact ⟨fun e he => by simp at he, kq_nil⟩
    · exact ⟨run_kv s (p, []) h (fun e he => by simp at he), may_kq (run_may s (p, []) h)⟩
  · exact ⟨fun e he => by simp at he, kq_nil⟩
def tellB (s : ByteArray) (L : List EV) : Bool := decide ((fedS (begS 0) s.data.toList).2.2 = 0) && (evB (fedS (begS 0) s.data.toList).2.1 L && eqS (fedS (begS 0) s.data.toList).1 (begS 0))
set_option maxRecDepth 100000 in
set_option maxHeartbeats 8000000 in
theorem tells_any (s : ByteArray) (Al : Option Addr) (nl cl : Nat) (L : List EV) (w : World) (hL : RV w (.slice Al nl cl) L) (hk : Kv L) (hm : Mk w) (ht : Tf w) (hs : s.size ≤ 1000000) :
    Calls Tryz.prog 27 #[.string s, .slice Al nl cl] w fun e w' => e = .returned (.bool (tellB s L)) ∧ Below w.heap.size w w' := by
  obtain ⟨cb, w1, hrun, hcb, hrow, hb1, hs1⟩ := Col.run_row (P := Tryz.prog) w 9 22 s Tryz.underlying9 Tryz.underlying22 Tryz.underlying5
  have hlen : s.size = s.data.toList.length := by simp
  have HF := Lib.hid (show Calls Tryz.prog 18 #[.agg #[.int .i64 0, .slice none 0 0, .int .u8 0, .int .u8 0, .slice none 0 0, .string ⟨#[]⟩, .string ⟨#[]⟩, .bool false], .slice (some ⟨w.heap.size, 0, none⟩) s.size cb] w1 (FedPost (fun _ => True) (fedS (begS 0) s.data.toList) w1) from
    feed_any (fun _ => True) (begS 0) none none _ 0 0 0 0 s.size cb s.data.toList w1 (PX.nil _ _ _ rfl rfl) (fun _ _ => trivial) (hm.keep hb1) (ht.keep hb1) hrow.rd hlen hs (by show (-100000 : Int) ≤ 0 ∧ (0 : Int) ≤ 100000; omega) (by show (0 : Nat) ≤ _; omega) kq_nil (by show (0 : Nat) ≤ _; omega) (by show (0 : Nat) ≤ _; omega))
  have HB1 := Lib.hid hb1
  have HKV := Lib.hid (fed_kv (begS 0) s.data.toList)
  have HRL := Lib.hid (hL.keep hb1)
  have HK := Lib.hid hk
  clear hrow hb1 hL hk hm ht hlen hcb hs1
  unfold tellB
  generalize fedS (begS 0) s.data.toList = r at HF HKV ⊢
  obtain ⟨⟨st, utf, pr, fi, pp, it, tx, bad⟩, evs, z⟩ := r
  dsimp only at *
  obtain ⟨t1, ht1⟩ : ∃ t, evB evs L = t := ⟨_, rfl⟩
  obtain ⟨t2, ht2⟩ : ∃ t, eqS ⟨st, utf, pr, fi, pp, it, tx, bad⟩ (begS 0) = t := ⟨_, rfl⟩
  have HT1 := Lib.hid ht1
  have HT2 := Lib.hid ht2
  rw [ht1, ht2]
  clear ht1 ht2
  go_enter Tryz.func27, Tryz.ntmps27
  go_wp2_with (first
    | (go_at_call 18; refine HF.out.mono ?_; rintro e w3 ⟨u, q, v, xs, rfl, hpx, hov, hmp, hex, hb3⟩; obtain ⟨Au, cu, hu⟩ := hpx.1.1.form; obtain ⟨Aq, cq, hq⟩ := hpx.1.2.form; obtain ⟨Av, cv, hv, -, -⟩ := hov.form; subst hu; subst hq; subst hv; unfold cS; dsimp only; have HRS := Lib.hid hpx.1; have HRV := Lib.hid (show RV w3 (.slice Av xs.length cv) evs from (by have h := hov.rv (fun x hx => (hex x hx).1); rw [hmp] at h; exact h)); have HB3 := Lib.hid hb3; clear hpx hov hmp hex hb3; have hx4 := Box.new w3 #[.int .i64 st, .slice Au utf.length cu, .int .u8 (pr.toNat : Int), .int .u8 (fi.toNat : Int), .slice Aq pp.length cq, .string it, .string tx, .bool bad] 25; have hb4 := below_box w3 (.cells #[.int .i64 st, .slice Au utf.length cu, .int .u8 (pr.toNat : Int), .int .u8 (fi.toNat : Int), .slice Aq pp.length cq, .string it, .string tx, .bool bad] 25); have HX4 := Lib.hid hx4; have HB4 := Lib.hid hb4; clear hx4 hb4)
    | (go_at_call 17; refine (revents_any _ _ evs L _ (HRV.out.keep HB4.out) ((HRL.out.keep HB3.out).keep HB4.out) HKV.out.1 HK.out).mono ?_; rintro e w5 ⟨rfl, hb5⟩; rw [HT1.out]; have hx5 := HX4.out.keep hb5; have x0 := hx5.cell 0 _ rfl; have x1 := hx5.cell 1 _ rfl; have x2 := hx5.cell 2 _ rfl; have x3 := hx5.cell 3 _ rfl; have x4 := hx5.cell 4 _ rfl; have x5 := hx5.cell 5 _ rfl; have x6 := hx5.cell 6 _ rfl; have x7 := hx5.cell 7 _ rfl; have HB5 := Lib.hid hb5; clear hx5 hb5)
    | (go_at_call 11; refine (rsame6_any ⟨st, utf, pr, fi, pp, it, tx, bad⟩ (begS 0) Au none Aq none utf.length 0 cu 0 pp.length 0 cq 0 _ ((HRS.out.keep HB4.out).keep HB5.out) (RS.nil _ _ rfl rfl) HKV.out.2 kq_nil).mono ?_; rintro e w6 ⟨rfl, hb6⟩; rw [HT2.out]; have HB6 := Lib.hid hb6; clear hb6))
  all_goals
    go_ret
    refine ⟨?_, ?_⟩
    · refine congrArg (fun z => Ending.returned (Value.bool z)) ?_
      simp_all
    · first
        | exact up (up (up (up HB1.out HB3.out) HB4.out) HB5.out) HB6.out
        | exact up (up (up HB1.out HB3.out) HB4.out) HB5.out
        | exact up (up HB1.out HB3.out) HB4.out
end Go.Proofs.YtmboekpomjgnnaaGreatDoor.Sta
namespace Go.Proofs.YtmboekpomjgnnaaGreatDoor.Sta
open Go.RowKit Utf Par

theorem RV.lit (w : World) (xs : List EQ) (t : TypeId) (hq : ∀ x ∈ xs, RL w (.slice x.A x.n x.c) x.e.ps) (hn : xs.length ≤ 1000) : RV (w.alloc (.cells (xs.flatMap cE).toArray t)) (.slice (some ⟨w.heap.size, 0, none⟩) xs.length xs.length) (xs.map (·.e)) :=
  ⟨_, xs.length, xs, by rw [List.length_map], by rw [List.length_map]; exact Nat.le_refl _, by unfold maxLen; omega, rfl, RdE.of (heap_alloc_new w _) xs (fun j p hj i v hv => by
    have hi : i < 7 := (List.getElem?_eq_some_iff.1 hv).1
    have := flat_at xs j p i hj hi
    rw [hv] at this
    simpa using this), fun x hx => (hq x hx).keep (below_box w _)⟩
theorem tells_true (s : ByteArray) (xs : List EQ) (n : Nat) (hn : xs.length = n) (h1 : n ≤ 1000) (w : World) (hq : ∀ x ∈ xs, RL w (.slice x.A x.n x.c) x.e.ps) (hk : Kv (xs.map (·.e))) (ht : tellB s (xs.map (·.e)) = true) (hm : Mk w) (hf : Tf w) (hs : s.size ≤ 1000000) :
    Calls Tryz.prog 27 #[.string s, .slice (some ⟨w.heap.size, 0, none⟩) n n] (w.alloc (.cells (xs.flatMap cE).toArray 27)) fun e w' => e = .returned (.bool true) ∧ Below w.heap.size w w' := by
  subst hn
  refine (tells_any s _ _ _ (xs.map (·.e)) _ (RV.lit w xs _ hq h1) hk (hm.keep (below_box w _)) (hf.keep (below_box w _)) hs).mono ?_
  rintro e w' ⟨rfl, hb⟩
  exact ⟨by rw [ht], up (below_box w _) hb⟩
theorem kv_small (l : List EV) (h : l.all (fun e => decide (e.ps.length ≤ 100) && e.ps.all (fun p => decide (p.length ≤ 100))) = true) : Kv l := fun e he => by
  rw [List.all_eq_true] at h
  have := h e he
  simp only [Bool.and_eq_true, decide_eq_true_eq, List.all_eq_true] at this
  exact ⟨by omega, fun p hp => by have := this.2 p hp; omega⟩
theorem k1 : tellB ⟨#[97, 7, 195, 169]⟩ [prE 97, ctE 7, prE 233] = true := by decide +kernel
theorem k2 : tellB ⟨#[27, 91, 49, 59, 50, 72, 27, 91, 63, 50, 53, 104]⟩ [⟨4, 0, 0, 72, [[1], [2]], nos, nos⟩, ⟨4, 0, 63, 104, [[25]], nos, nos⟩] = true := by decide +kernel
theorem k3 : tellB ⟨#[27, 40, 48, 27, 55, 27, 35, 56]⟩ [esE ⟨#[40]⟩ 48, esE nos 55, esE ⟨#[35]⟩ 56] = true := by decide +kernel
theorem k4 : tellB ⟨#[27, 93, 48, 59, 116, 7, 27, 93, 50, 59, 117, 27, 92]⟩ [⟨5, 0, 0, 0, [], nos, ⟨#[48, 59, 116]⟩⟩, ⟨5, 0, 0, 0, [], nos, ⟨#[50, 59, 117]⟩⟩] = true := by decide +kernel
theorem k5 : tellB ⟨#[27, 91, 49, 13, 109]⟩ [ctE 13, ⟨4, 0, 0, 109, [[1]], nos, nos⟩] = true := by decide +kernel
theorem k6 : tellB ⟨#[27, 91, 49, 24, 109, 27, 91, 60, 49, 63, 109, 120]⟩ [prE 109, prE 120] = true := by decide +kernel
theorem k7 : tellB ⟨#[27, 80, 49, 36, 113, 109, 27, 92]⟩ [⟨6, 0, 0, 113, [[1]], ⟨#[36]⟩, ⟨#[109]⟩⟩] = true := by decide +kernel
theorem k8 : tellB ⟨#[226, 130, 27, 99]⟩ [prE 65533, esE nos 99] = true := by decide +kernel

theorem t1 (w : World)   (hm : Mk w) (hf : Tf w) :
    Calls Tryz.prog 27 #[.string ⟨#[97, 7, 195, 169]⟩, .slice (some ⟨w.heap.size, 0, none⟩) 3 3] (w.alloc (.cells #[.int .i64 1, .int .i64 97, .int .u8 0, .int .u8 0, .slice .none 0 0, .string ⟨#[]⟩, .string ⟨#[]⟩, .int .i64 2, .int .i64 7, .int .u8 0, .int .u8 0, .slice .none 0 0, .string ⟨#[]⟩, .string ⟨#[]⟩, .int .i64 1, .int .i64 233, .int .u8 0, .int .u8 0, .slice .none 0 0, .string ⟨#[]⟩, .string ⟨#[]⟩] 27)) fun e w' => e = .returned (.bool true) ∧ Below w.heap.size w w' :=
  tells_true _ [⟨⟨1, 97, 0, 0, [], ⟨#[]⟩, ⟨#[]⟩⟩, .none, 0, 0⟩, ⟨⟨2, 7, 0, 0, [], ⟨#[]⟩, ⟨#[]⟩⟩, .none, 0, 0⟩, ⟨⟨1, 233, 0, 0, [], ⟨#[]⟩, ⟨#[]⟩⟩, .none, 0, 0⟩] 3 rfl (by decide) w (by
    intro x hx
    simp only [List.mem_cons, List.not_mem_nil, or_false] at hx
    rcases hx with rfl | rfl | rfl
    · exact RL.nil _
    · exact RL.nil _
    · exact RL.nil _
    ) (kv_small _ (by rfl)) k1 hm hf (by decide)
theorem t2 (w : World) (Aa : Option Addr) (na da : Nat) (Ab : Option Addr) (nb db : Nat) (ha : RL w (.slice Aa na da) [[1], [2]]) (hb : RL w (.slice Ab nb db) [[25]]) (hm : Mk w) (hf : Tf w) :
    Calls Tryz.prog 27 #[.string ⟨#[27, 91, 49, 59, 50, 72, 27, 91, 63, 50, 53, 104]⟩, .slice (some ⟨w.heap.size, 0, none⟩) 2 2] (w.alloc (.cells #[.int .i64 4, .int .i64 0, .int .u8 0, .int .u8 72, .slice Aa na da, .string ⟨#[]⟩, .string ⟨#[]⟩, .int .i64 4, .int .i64 0, .int .u8 63, .int .u8 104, .slice Ab nb db, .string ⟨#[]⟩, .string ⟨#[]⟩] 27)) fun e w' => e = .returned (.bool true) ∧ Below w.heap.size w w' :=
  tells_true _ [⟨⟨4, 0, 0, 72, [[1], [2]], ⟨#[]⟩, ⟨#[]⟩⟩, Aa, na, da⟩, ⟨⟨4, 0, 63, 104, [[25]], ⟨#[]⟩, ⟨#[]⟩⟩, Ab, nb, db⟩] 2 rfl (by decide) w (by
    intro x hx
    simp only [List.mem_cons, List.not_mem_nil, or_false] at hx
    rcases hx with rfl | rfl
    · exact ha
    · exact hb
    ) (kv_small _ (by rfl)) k2 hm hf (by decide)
theorem t3 (w : World)   (hm : Mk w) (hf : Tf w) :
    Calls Tryz.prog 27 #[.string ⟨#[27, 40, 48, 27, 55, 27, 35, 56]⟩, .slice (some ⟨w.heap.size, 0, none⟩) 3 3] (w.alloc (.cells #[.int .i64 3, .int .i64 0, .int .u8 0, .int .u8 48, .slice .none 0 0, .string ⟨#[40]⟩, .string ⟨#[]⟩, .int .i64 3, .int .i64 0, .int .u8 0, .int .u8 55, .slice .none 0 0, .string ⟨#[]⟩, .string ⟨#[]⟩, .int .i64 3, .int .i64 0, .int .u8 0, .int .u8 56, .slice .none 0 0, .string ⟨#[35]⟩, .string ⟨#[]⟩] 27)) fun e w' => e = .returned (.bool true) ∧ Below w.heap.size w w' :=
  tells_true _ [⟨⟨3, 0, 0, 48, [], ⟨#[40]⟩, ⟨#[]⟩⟩, .none, 0, 0⟩, ⟨⟨3, 0, 0, 55, [], ⟨#[]⟩, ⟨#[]⟩⟩, .none, 0, 0⟩, ⟨⟨3, 0, 0, 56, [], ⟨#[35]⟩, ⟨#[]⟩⟩, .none, 0, 0⟩] 3 rfl (by decide) w (by
    intro x hx
    simp only [List.mem_cons, List.not_mem_nil, or_false] at hx
    rcases hx with rfl | rfl | rfl
    · exact RL.nil _
    · exact RL.nil _
    · exact RL.nil _
    ) (kv_small _ (by rfl)) k3 hm hf (by decide)
theorem t4 (w : World)   (hm : Mk w) (hf : Tf w) :
    Calls Tryz.prog 27 #[.string ⟨#[27, 93, 48, 59, 116, 7, 27, 93, 50, 59, 117, 27, 92]⟩, .slice (some ⟨w.heap.size, 0, none⟩) 2 2] (w.alloc (.cells #[.int .i64 5, .int .i64 0, .int .u8 0, .int .u8 0, .slice .none 0 0, .string ⟨#[]⟩, .string ⟨#[48, 59, 116]⟩, .int .i64 5, .int .i64 0, .int .u8 0, .int .u8 0, .slice .none 0 0, .string ⟨#[]⟩, .string ⟨#[50, 59, 117]⟩] 27)) fun e w' => e = .returned (.bool true) ∧ Below w.heap.size w w' :=
  tells_true _ [⟨⟨5, 0, 0, 0, [], ⟨#[]⟩, ⟨#[48, 59, 116]⟩⟩, .none, 0, 0⟩, ⟨⟨5, 0, 0, 0, [], ⟨#[]⟩, ⟨#[50, 59, 117]⟩⟩, .none, 0, 0⟩] 2 rfl (by decide) w (by
    intro x hx
    simp only [List.mem_cons, List.not_mem_nil, or_false] at hx
    rcases hx with rfl | rfl
    · exact RL.nil _
    · exact RL.nil _
    ) (kv_small _ (by rfl)) k4 hm hf (by decide)
theorem t5 (w : World) (Aa : Option Addr) (na da : Nat) (ha : RL w (.slice Aa na da) [[1]]) (hm : Mk w) (hf : Tf w) :
    Calls Tryz.prog 27 #[.string ⟨#[27, 91, 49, 13, 109]⟩, .slice (some ⟨w.heap.size, 0, none⟩) 2 2] (w.alloc (.cells #[.int .i64 2, .int .i64 13, .int .u8 0, .int .u8 0, .slice .none 0 0, .string ⟨#[]⟩, .string ⟨#[]⟩, .int .i64 4, .int .i64 0, .int .u8 0, .int .u8 109, .slice Aa na da, .string ⟨#[]⟩, .string ⟨#[]⟩] 27)) fun e w' => e = .returned (.bool true) ∧ Below w.heap.size w w' :=
  tells_true _ [⟨⟨2, 13, 0, 0, [], ⟨#[]⟩, ⟨#[]⟩⟩, .none, 0, 0⟩, ⟨⟨4, 0, 0, 109, [[1]], ⟨#[]⟩, ⟨#[]⟩⟩, Aa, na, da⟩] 2 rfl (by decide) w (by
    intro x hx
    simp only [List.mem_cons, List.not_mem_nil, or_false] at hx
    rcases hx with rfl | rfl
    · exact RL.nil _
    · exact ha
    ) (kv_small _ (by rfl)) k5 hm hf (by decide)
theorem t6 (w : World)   (hm : Mk w) (hf : Tf w) :
    Calls Tryz.prog 27 #[.string ⟨#[27, 91, 49, 24, 109, 27, 91, 60, 49, 63, 109, 120]⟩, .slice (some ⟨w.heap.size, 0, none⟩) 2 2] (w.alloc (.cells #[.int .i64 1, .int .i64 109, .int .u8 0, .int .u8 0, .slice .none 0 0, .string ⟨#[]⟩, .string ⟨#[]⟩, .int .i64 1, .int .i64 120, .int .u8 0, .int .u8 0, .slice .none 0 0, .string ⟨#[]⟩, .string ⟨#[]⟩] 27)) fun e w' => e = .returned (.bool true) ∧ Below w.heap.size w w' :=
  tells_true _ [⟨⟨1, 109, 0, 0, [], ⟨#[]⟩, ⟨#[]⟩⟩, .none, 0, 0⟩, ⟨⟨1, 120, 0, 0, [], ⟨#[]⟩, ⟨#[]⟩⟩, .none, 0, 0⟩] 2 rfl (by decide) w (by
    intro x hx
    simp only [List.mem_cons, List.not_mem_nil, or_false] at hx
    rcases hx with rfl | rfl
    · exact RL.nil _
    · exact RL.nil _
    ) (kv_small _ (by rfl)) k6 hm hf (by decide)
theorem t7 (w : World) (Aa : Option Addr) (na da : Nat) (ha : RL w (.slice Aa na da) [[1]]) (hm : Mk w) (hf : Tf w) :
    Calls Tryz.prog 27 #[.string ⟨#[27, 80, 49, 36, 113, 109, 27, 92]⟩, .slice (some ⟨w.heap.size, 0, none⟩) 1 1] (w.alloc (.cells #[.int .i64 6, .int .i64 0, .int .u8 0, .int .u8 113, .slice Aa na da, .string ⟨#[36]⟩, .string ⟨#[109]⟩] 27)) fun e w' => e = .returned (.bool true) ∧ Below w.heap.size w w' :=
  tells_true _ [⟨⟨6, 0, 0, 113, [[1]], ⟨#[36]⟩, ⟨#[109]⟩⟩, Aa, na, da⟩] 1 rfl (by decide) w (by
    intro x hx
    simp only [List.mem_cons, List.not_mem_nil, or_false] at hx
    rcases hx with rfl
    · exact ha
    ) (kv_small _ (by rfl)) k7 hm hf (by decide)
theorem t8 (w : World)   (hm : Mk w) (hf : Tf w) :
    Calls Tryz.prog 27 #[.string ⟨#[226, 130, 27, 99]⟩, .slice (some ⟨w.heap.size, 0, none⟩) 2 2] (w.alloc (.cells #[.int .i64 1, .int .i64 65533, .int .u8 0, .int .u8 0, .slice .none 0 0, .string ⟨#[]⟩, .string ⟨#[]⟩, .int .i64 3, .int .i64 0, .int .u8 0, .int .u8 99, .slice .none 0 0, .string ⟨#[]⟩, .string ⟨#[]⟩] 27)) fun e w' => e = .returned (.bool true) ∧ Below w.heap.size w w' :=
  tells_true _ [⟨⟨1, 65533, 0, 0, [], ⟨#[]⟩, ⟨#[]⟩⟩, .none, 0, 0⟩, ⟨⟨3, 0, 0, 99, [], ⟨#[]⟩, ⟨#[]⟩⟩, .none, 0, 0⟩] 2 rfl (by decide) w (by
    intro x hx
    simp only [List.mem_cons, List.not_mem_nil, or_false] at hx
    rcases hx with rfl | rfl
    · exact RL.nil _
    · exact RL.nil _
    ) (kv_small _ (by rfl)) k8 hm hf (by decide)
end Go.Proofs.YtmboekpomjgnnaaGreatDoor.Sta
namespace Go.Proofs.YtmboekpomjgnnaaGreatDoor.Sta
open Go.RowKit Utf Par

set_option maxRecDepth 100000 in
set_option maxHeartbeats 8000000 in
theorem works_any (w : World) (hm : Mk w) (hf : Tf w) : Calls Tryz.prog 14 #[] w fun e w' => e = .returned (.bool true) ∧ Below w.heap.size w w' := by
  have HM := Lib.hid hm
  have HF := Lib.hid hf
  clear hm hf
  have HC1 := Lib.hid (fun (W : World) (f z : Int) => lcsi_any f (some ⟨W.heap.size, 0, none⟩) 1 1 [z] _ rfl (show Rd (W.alloc (.cells #[.int .i64 z] 3)) (some ⟨W.heap.size, 0, none⟩) (cI [z]) from Rd.one W (.int .i64 z) 3) (by decide))
  have HP1 := Lib.hid (fun (W : World) (z : Int) => lparams_any (some ⟨W.heap.size, 0, none⟩) 1 1 [z] _ rfl (show Rd (W.alloc (.cells #[.int .i64 z] 3)) (some ⟨W.heap.size, 0, none⟩) (cI [z]) from Rd.one W (.int .i64 z) 3) (by decide))
  have HC2 := Lib.hid (fun (W : World) (f z y : Int) => lcsi_any f (some ⟨W.heap.size, 0, none⟩) 2 2 [z, y] _ rfl (show Rd (W.alloc (.cells #[.int .i64 z, .int .i64 y] 3)) (some ⟨W.heap.size, 0, none⟩) (cI [z, y]) from Rd.lit W (cI [z, y]) 3) (by decide))
  go_enter Tryz.func14, Tryz.ntmps14
  go_upto_region 3 with (go_at_call 25; refine (HC1.out _ _ _).mono ?_; rintro e w3 ⟨A1, n1, d1, rfl, hr1, hb1⟩; have HR1 := Lib.hid hr1; have HB1 := Lib.hid (up (below_box _ _) hb1); clear hr1 hb1)
  have hb3 := below_box w3 (.cells #[.int .i64 4, .int .i64 0, .int .u8 63, .int .u8 104, .slice A1 n1 d1, .string ⟨#[]⟩, .string ⟨#[]⟩] 27)
  have hx3 := Box.new w3 #[.int .i64 4, .int .i64 0, .int .u8 63, .int .u8 104, .slice A1 n1 d1, .string ⟨#[]⟩, .string ⟨#[]⟩] 27
  have HB3 := Lib.hid (up HB1.out hb3)
  have HX3 := Lib.hid hx3
  have HQ1 := Lib.hid (show RL _ (.slice A1 n1 d1) [[25]] from HR1.out.keep hb3)
  clear hb3 hx3 HR1
  generalize w3.alloc (.cells #[.int .i64 4, .int .i64 0, .int .u8 63, .int .u8 104, .slice A1 n1 d1, .string ⟨#[]⟩, .string ⟨#[]⟩] 27) = wa at HB3 HX3 HQ1 ⊢
  generalize w3.heap.size = T1 at HX3 ⊢
  go_upto_region 4 with (go_at_call 26; refine (HP1.out _ _).mono ?_; rintro e w4 ⟨v2, rfl, ⟨hr2, -, -⟩, hb2⟩; obtain ⟨A2, d2, hv2⟩ := hr2.form; subst hv2; have HR2 := Lib.hid hr2; have HB2 := Lib.hid (up (below_box _ _) hb2); clear hr2 hb2)
  have hb4 := below_box w4 (.cells #[.int .i64 6, .int .i64 0, .int .u8 0, .int .u8 113, .slice A2 1 d2, .string ⟨#[36]⟩, .string ⟨#[109]⟩] 27)
  have hx4 := Box.new w4 #[.int .i64 6, .int .i64 0, .int .u8 0, .int .u8 113, .slice A2 1 d2, .string ⟨#[36]⟩, .string ⟨#[109]⟩] 27
  have HB4 := Lib.hid (up (up HB3.out HB2.out) hb4)
  have HX4 := Lib.hid hx4
  have HX3' := Lib.hid ((HX3.out.keep HB2.out).keep hb4)
  have HQ2 := Lib.hid (show RL _ (.slice A2 1 d2) [[1]] from HR2.out.keep hb4)
  have HQ1' := Lib.hid ((HQ1.out.keep HB2.out).keep hb4)
  clear hb4 hx4 HR2 HX3 HQ1
  generalize w4.alloc (.cells #[.int .i64 6, .int .i64 0, .int .u8 0, .int .u8 113, .slice A2 1 d2, .string ⟨#[36]⟩, .string ⟨#[109]⟩] 27) = wb at HB4 HX4 HX3' HQ2 HQ1' ⊢
  generalize w4.heap.size = T2 at HX4 ⊢
  go_upto_region 5 with fail
  rename_i K5 hK5
  have HK5 := Lib.hid hK5
  clear hK5
  have hb5 := below_box wb (.cells #[.int .i64 2, .int .i64 7, .int .u8 0, .int .u8 0, .slice none 0 0, .string ⟨#[]⟩, .string ⟨#[]⟩] 27)
  have hb6 := below_box (wb.alloc (.cells #[.int .i64 2, .int .i64 7, .int .u8 0, .int .u8 0, .slice none 0 0, .string ⟨#[]⟩, .string ⟨#[]⟩] 27)) (.cells #[.int .i64 2, .int .i64 13, .int .u8 0, .int .u8 0, .slice none 0 0, .string ⟨#[]⟩, .string ⟨#[]⟩] 27)
  have hx5 := (Box.new wb #[.int .i64 2, .int .i64 7, .int .u8 0, .int .u8 0, .slice none 0 0, .string ⟨#[]⟩, .string ⟨#[]⟩] 27).keep hb6
  have hx6 := Box.new (wb.alloc (.cells #[.int .i64 2, .int .i64 7, .int .u8 0, .int .u8 0, .slice none 0 0, .string ⟨#[]⟩, .string ⟨#[]⟩] 27)) #[.int .i64 2, .int .i64 13, .int .u8 0, .int .u8 0, .slice none 0 0, .string ⟨#[]⟩, .string ⟨#[]⟩] 27
  rw [World.size_alloc] at hx6
  have hx1 := (HX3'.out.keep hb5).keep hb6
  have hx2 := (HX4.out.keep hb5).keep hb6
  have HB := Lib.hid (up (up HB4.out hb5) hb6)
  have HQ1 := Lib.hid ((HQ1'.out.keep hb5).keep hb6)
  have HQ3 := Lib.hid ((HQ2.out.keep hb5).keep hb6)
  clear hb5 hb6 HX4 HX3' HQ1' HQ2 HB4 HB3 HB2 HB1
  generalize (wb.alloc (.cells #[.int .i64 2, .int .i64 7, .int .u8 0, .int .u8 0, .slice none 0 0, .string ⟨#[]⟩, .string ⟨#[]⟩] 27)).alloc (.cells #[.int .i64 2, .int .i64 13, .int .u8 0, .int .u8 0, .slice none 0 0, .string ⟨#[]⟩, .string ⟨#[]⟩] 27) = wc at hx1 hx2 hx5 hx6 HB HQ1 HQ3 ⊢
  generalize wb.heap.size + 1 = T4 at hx6 ⊢
  generalize wb.heap.size = T3 at hx5 ⊢
  have HK := Lib.hid (show ∀ W, Below wc.heap.size wc W → W.cell? ⟨T1, 0, none⟩ = some (.int .i64 4) ∧ W.cell? ⟨T1, 1, none⟩ = some (.int .i64 0) ∧ W.cell? ⟨T1, 2, none⟩ = some (.int .u8 63) ∧ W.cell? ⟨T1, 3, none⟩ = some (.int .u8 104) ∧ W.cell? ⟨T1, 4, none⟩ = some (.slice A1 n1 d1) ∧ W.cell? ⟨T1, 5, none⟩ = some (.string ⟨#[]⟩) ∧ W.cell? ⟨T1, 6, none⟩ = some (.string ⟨#[]⟩) ∧ W.cell? ⟨T2, 0, none⟩ = some (.int .i64 6) ∧ W.cell? ⟨T2, 1, none⟩ = some (.int .i64 0) ∧ W.cell? ⟨T2, 2, none⟩ = some (.int .u8 0) ∧ W.cell? ⟨T2, 3, none⟩ = some (.int .u8 113) ∧ W.cell? ⟨T2, 4, none⟩ = some (.slice A2 1 d2) ∧ W.cell? ⟨T2, 5, none⟩ = some (.string ⟨#[36]⟩) ∧ W.cell? ⟨T2, 6, none⟩ = some (.string ⟨#[109]⟩) ∧ W.cell? ⟨T3, 0, none⟩ = some (.int .i64 2) ∧ W.cell? ⟨T3, 1, none⟩ = some (.int .i64 7) ∧ W.cell? ⟨T3, 2, none⟩ = some (.int .u8 0) ∧ W.cell? ⟨T3, 3, none⟩ = some (.int .u8 0) ∧ W.cell? ⟨T3, 4, none⟩ = some (.slice none 0 0) ∧ W.cell? ⟨T3, 5, none⟩ = some (.string ⟨#[]⟩) ∧ W.cell? ⟨T3, 6, none⟩ = some (.string ⟨#[]⟩) ∧ W.cell? ⟨T4, 0, none⟩ = some (.int .i64 2) ∧ W.cell? ⟨T4, 1, none⟩ = some (.int .i64 13) ∧ W.cell? ⟨T4, 2, none⟩ = some (.int .u8 0) ∧ W.cell? ⟨T4, 3, none⟩ = some (.int .u8 0) ∧ W.cell? ⟨T4, 4, none⟩ = some (.slice none 0 0) ∧ W.cell? ⟨T4, 5, none⟩ = some (.string ⟨#[]⟩) ∧ W.cell? ⟨T4, 6, none⟩ = some (.string ⟨#[]⟩) from fun W hW => ⟨(hx1.keep hW).cell 0 _ rfl, (hx1.keep hW).cell 1 _ rfl, (hx1.keep hW).cell 2 _ rfl, (hx1.keep hW).cell 3 _ rfl, (hx1.keep hW).cell 4 _ rfl, (hx1.keep hW).cell 5 _ rfl, (hx1.keep hW).cell 6 _ rfl, (hx2.keep hW).cell 0 _ rfl, (hx2.keep hW).cell 1 _ rfl, (hx2.keep hW).cell 2 _ rfl, (hx2.keep hW).cell 3 _ rfl, (hx2.keep hW).cell 4 _ rfl, (hx2.keep hW).cell 5 _ rfl, (hx2.keep hW).cell 6 _ rfl, (hx5.keep hW).cell 0 _ rfl, (hx5.keep hW).cell 1 _ rfl, (hx5.keep hW).cell 2 _ rfl, (hx5.keep hW).cell 3 _ rfl, (hx5.keep hW).cell 4 _ rfl, (hx5.keep hW).cell 5 _ rfl, (hx5.keep hW).cell 6 _ rfl, (hx6.keep hW).cell 0 _ rfl, (hx6.keep hW).cell 1 _ rfl, (hx6.keep hW).cell 2 _ rfl, (hx6.keep hW).cell 3 _ rfl, (hx6.keep hW).cell 4 _ rfl, (hx6.keep hW).cell 5 _ rfl, (hx6.keep hW).cell 6 _ rfl⟩)
  have HW := Lib.hid (show ∀ W, Below wc.heap.size wc W → Mk W ∧ Tf W ∧ RL W (.slice A1 n1 d1) [[25]] ∧ RL W (.slice A2 1 d2) [[1]] ∧ Below w.heap.size w W from fun W hW => ⟨HM.out.keep (up HB.out hW), HF.out.keep (up HB.out hW), HQ1.out.keep hW, HQ3.out.keep hW, up HB.out hW⟩)
  clear hx1 hx2 hx5 hx6
  have hB := (Below.refl wc.heap.size wc).drew
  go_region_held3 (fun W => W.cell? ⟨T1, 0, none⟩ = some (.int .i64 4) ∧ W.cell? ⟨T1, 1, none⟩ = some (.int .i64 0) ∧ W.cell? ⟨T1, 2, none⟩ = some (.int .u8 63) ∧ W.cell? ⟨T1, 3, none⟩ = some (.int .u8 104) ∧ W.cell? ⟨T1, 4, none⟩ = some (.slice A1 n1 d1) ∧ W.cell? ⟨T1, 5, none⟩ = some (.string ⟨#[]⟩) ∧ W.cell? ⟨T1, 6, none⟩ = some (.string ⟨#[]⟩) ∧ W.cell? ⟨T2, 0, none⟩ = some (.int .i64 6) ∧ W.cell? ⟨T2, 1, none⟩ = some (.int .i64 0) ∧ W.cell? ⟨T2, 2, none⟩ = some (.int .u8 0) ∧ W.cell? ⟨T2, 3, none⟩ = some (.int .u8 113) ∧ W.cell? ⟨T2, 4, none⟩ = some (.slice A2 1 d2) ∧ W.cell? ⟨T2, 5, none⟩ = some (.string ⟨#[36]⟩) ∧ W.cell? ⟨T2, 6, none⟩ = some (.string ⟨#[109]⟩) ∧ W.cell? ⟨T3, 0, none⟩ = some (.int .i64 2) ∧ W.cell? ⟨T3, 1, none⟩ = some (.int .i64 7) ∧ W.cell? ⟨T3, 2, none⟩ = some (.int .u8 0) ∧ W.cell? ⟨T3, 3, none⟩ = some (.int .u8 0) ∧ W.cell? ⟨T3, 4, none⟩ = some (.slice none 0 0) ∧ W.cell? ⟨T3, 5, none⟩ = some (.string ⟨#[]⟩) ∧ W.cell? ⟨T3, 6, none⟩ = some (.string ⟨#[]⟩) ∧ W.cell? ⟨T4, 0, none⟩ = some (.int .i64 2) ∧ W.cell? ⟨T4, 1, none⟩ = some (.int .i64 13) ∧ W.cell? ⟨T4, 2, none⟩ = some (.int .u8 0) ∧ W.cell? ⟨T4, 3, none⟩ = some (.int .u8 0) ∧ W.cell? ⟨T4, 4, none⟩ = some (.slice none 0 0) ∧ W.cell? ⟨T4, 5, none⟩ = some (.string ⟨#[]⟩) ∧ W.cell? ⟨T4, 6, none⟩ = some (.string ⟨#[]⟩))
    (first | with_reducible exact HK.out _ hB | with_reducible exact HK.out _ (up hB (below_box _ _)) | with_reducible assumption)
    (first
      | (go_at_call 28; refine (lprint_any _ _).mono ?_; rintro e w' ⟨rfl, hb'⟩; have hB : Below wc.heap.size wc w' := (by first | exact up hB hb' | exact up (up hB (below_box _ _)) hb'))
      | (go_at_call 29; refine (lesc_any _ _ _).mono ?_; rintro e w' ⟨rfl, hb'⟩; have hB : Below wc.heap.size wc w' := (by first | exact up hB hb' | exact up (up hB (below_box _ _)) hb'))
      | (go_at_call 25; refine (HC2.out _ _ _ _).mono ?_; rintro e w' ⟨A5, n5, d5, rfl, hr5, hb'⟩; have HR5 := Lib.hid (show RL w' (.slice A5 n5 d5) [[1], [2]] from hr5); clear hr5; have hB : Below wc.heap.size wc w' := (by first | exact up hB hb' | exact up (up hB (below_box _ _)) hb'))
      | (go_at_call_of 27 (Value.string ⟨#[97, 7, 195, 169]⟩); refine (t1 _  (HW.out _ hB).1 (HW.out _ hB).2.1).mono ?_; rintro e w' ⟨rfl, hb'⟩; have hB : Below wc.heap.size wc w' := (by first | exact up hB hb' | exact up (up hB (below_box _ _)) hb'))
      | (go_at_call_of 27 (Value.string ⟨#[27, 91, 49, 59, 50, 72, 27, 91, 63, 50, 53, 104]⟩); refine (t2 _ A5 n5 d5 A1 n1 d1 HR5.out (HW.out _ hB).2.2.1 (HW.out _ hB).1 (HW.out _ hB).2.1).mono ?_; rintro e w' ⟨rfl, hb'⟩; have hB : Below wc.heap.size wc w' := (by first | exact up hB hb' | exact up (up hB (below_box _ _)) hb'))
      | (go_at_call_of 27 (Value.string ⟨#[27, 40, 48, 27, 55, 27, 35, 56]⟩); refine (t3 _  (HW.out _ hB).1 (HW.out _ hB).2.1).mono ?_; rintro e w' ⟨rfl, hb'⟩; have hB : Below wc.heap.size wc w' := (by first | exact up hB hb' | exact up (up hB (below_box _ _)) hb')))
  have hB := hB.drew
  show K5 _ _
  refine HK5.out _ _ ?_
  clear HK5
  go_upto_region 6 with fail
  rename_i K6 hK6
  have HK6 := Lib.hid hK6
  clear hK6
  go_region_held3 (fun W => W.cell? ⟨T1, 0, none⟩ = some (.int .i64 4) ∧ W.cell? ⟨T1, 1, none⟩ = some (.int .i64 0) ∧ W.cell? ⟨T1, 2, none⟩ = some (.int .u8 63) ∧ W.cell? ⟨T1, 3, none⟩ = some (.int .u8 104) ∧ W.cell? ⟨T1, 4, none⟩ = some (.slice A1 n1 d1) ∧ W.cell? ⟨T1, 5, none⟩ = some (.string ⟨#[]⟩) ∧ W.cell? ⟨T1, 6, none⟩ = some (.string ⟨#[]⟩) ∧ W.cell? ⟨T2, 0, none⟩ = some (.int .i64 6) ∧ W.cell? ⟨T2, 1, none⟩ = some (.int .i64 0) ∧ W.cell? ⟨T2, 2, none⟩ = some (.int .u8 0) ∧ W.cell? ⟨T2, 3, none⟩ = some (.int .u8 113) ∧ W.cell? ⟨T2, 4, none⟩ = some (.slice A2 1 d2) ∧ W.cell? ⟨T2, 5, none⟩ = some (.string ⟨#[36]⟩) ∧ W.cell? ⟨T2, 6, none⟩ = some (.string ⟨#[109]⟩) ∧ W.cell? ⟨T3, 0, none⟩ = some (.int .i64 2) ∧ W.cell? ⟨T3, 1, none⟩ = some (.int .i64 7) ∧ W.cell? ⟨T3, 2, none⟩ = some (.int .u8 0) ∧ W.cell? ⟨T3, 3, none⟩ = some (.int .u8 0) ∧ W.cell? ⟨T3, 4, none⟩ = some (.slice none 0 0) ∧ W.cell? ⟨T3, 5, none⟩ = some (.string ⟨#[]⟩) ∧ W.cell? ⟨T3, 6, none⟩ = some (.string ⟨#[]⟩) ∧ W.cell? ⟨T4, 0, none⟩ = some (.int .i64 2) ∧ W.cell? ⟨T4, 1, none⟩ = some (.int .i64 13) ∧ W.cell? ⟨T4, 2, none⟩ = some (.int .u8 0) ∧ W.cell? ⟨T4, 3, none⟩ = some (.int .u8 0) ∧ W.cell? ⟨T4, 4, none⟩ = some (.slice none 0 0) ∧ W.cell? ⟨T4, 5, none⟩ = some (.string ⟨#[]⟩) ∧ W.cell? ⟨T4, 6, none⟩ = some (.string ⟨#[]⟩))
    (first | with_reducible exact HK.out _ hB | with_reducible exact HK.out _ (up hB (below_box _ _)) | with_reducible assumption)
    (first
      | (go_at_call 28; refine (lprint_any _ _).mono ?_; rintro e w' ⟨rfl, hb'⟩; have hB : Below wc.heap.size wc w' := (by first | exact up hB hb' | exact up (up hB (below_box _ _)) hb'))
      | (go_at_call 30; refine (losc_any _ _).mono ?_; rintro e w' ⟨rfl, hb'⟩; have hB : Below wc.heap.size wc w' := (by first | exact up hB hb' | exact up (up hB (below_box _ _)) hb'))
      | (go_at_call 25; refine (HC1.out _ _ _).mono ?_; rintro e w' ⟨A5, n5, d5, rfl, hr5, hb'⟩; have HR5 := Lib.hid (show RL w' (.slice A5 n5 d5) [[1]] from hr5); clear hr5; have hB : Below wc.heap.size wc w' := (by first | exact up hB hb' | exact up (up hB (below_box _ _)) hb'))
      | (go_at_call_of 27 (Value.string ⟨#[27, 93, 48, 59, 116, 7, 27, 93, 50, 59, 117, 27, 92]⟩); refine (t4 _  (HW.out _ hB).1 (HW.out _ hB).2.1).mono ?_; rintro e w' ⟨rfl, hb'⟩; have hB : Below wc.heap.size wc w' := (by first | exact up hB hb' | exact up (up hB (below_box _ _)) hb'))
      | (go_at_call_of 27 (Value.string ⟨#[27, 91, 49, 13, 109]⟩); refine (t5 _ A5 n5 d5 HR5.out (HW.out _ hB).1 (HW.out _ hB).2.1).mono ?_; rintro e w' ⟨rfl, hb'⟩; have hB : Below wc.heap.size wc w' := (by first | exact up hB hb' | exact up (up hB (below_box _ _)) hb'))
      | (go_at_call_of 27 (Value.string ⟨#[27, 91, 49, 24, 109, 27, 91, 60, 49, 63, 109, 120]⟩); refine (t6 _  (HW.out _ hB).1 (HW.out _ hB).2.1).mono ?_; rintro e w' ⟨rfl, hb'⟩; have hB : Below wc.heap.size wc w' := (by first | exact up hB hb' | exact up (up hB (below_box _ _)) hb')))
  show K6 _ _
  refine HK6.out _ _ ?_
  clear HK6
  obtain ⟨-, -, -, -, -, -, -, g0, g1, g2, g3, g4, g5, g6, -⟩ := HK.out _ hB
  go_wp2_with (first
      | (go_at_call 28; refine (lprint_any _ _).mono ?_; rintro e w' ⟨rfl, hb'⟩; have hB : Below wc.heap.size wc w' := (by first | exact up hB hb' | exact up (up hB (below_box _ _)) hb'))
      | (go_at_call 29; refine (lesc_any _ _ _).mono ?_; rintro e w' ⟨rfl, hb'⟩; have hB : Below wc.heap.size wc w' := (by first | exact up hB hb' | exact up (up hB (below_box _ _)) hb'))
      | (go_at_call_of 27 (Value.string ⟨#[27, 80, 49, 36, 113, 109, 27, 92]⟩); refine (t7 _ A2 1 d2 (HW.out _ hB).2.2.2.1 (HW.out _ hB).1 (HW.out _ hB).2.1).mono ?_; rintro e w' ⟨rfl, hb'⟩; have hB : Below wc.heap.size wc w' := (by first | exact up hB hb' | exact up (up hB (below_box _ _)) hb'))
      | (go_at_call_of 27 (Value.string ⟨#[226, 130, 27, 99]⟩); refine (t8 _  (HW.out _ hB).1 (HW.out _ hB).2.1).mono ?_; rintro e w' ⟨rfl, hb'⟩; have hB : Below wc.heap.size wc w' := (by first | exact up hB hb' | exact up (up hB (below_box _ _)) hb')))
  go_ret
  exact ⟨rfl, (HW.out _ hB).2.2.2.2⟩
end Go.Proofs.YtmboekpomjgnnaaGreatDoor.Sta
