/-
  StaNd
-/
import Derived.Test.YtmboekpomjgnnaaGreatDoorF21
import Derived.Test.YtmboekpomjgnnaaGreatDoorF41
namespace Go.Proofs.YtmboekpomjgnnaaGreatDoor.Sta
open Go.RowKit Utf Par

theorem RL.zero {w W : World} {v : Value} (h : RL w v []) : RL W v [] := by
  obtain ⟨A, c, vs, h1, h2, h3, h4, h5, _, _⟩ := h
  obtain rfl : vs = [] := List.eq_nil_of_length_eq_zero h5
  exact ⟨A, c, [], h1, h2, h3, h4, rfl, Rd.nil _ _, fun j x p hx => by simp at hx⟩
theorem Rd.agr {w W : World} {B : Nat} {A : Option Addr} {xs : List Value} (h : Rd w A xs) (hA : ∀ ad, A = some ad → B ≤ ad.block) (ha : ∀ k, B ≤ k → k < w.heap.size → W.heap[k]? = w.heap[k]?) : Rd W A xs := fun j u hu => by
  obtain ⟨ad, rfl, hlt, hc⟩ := h j u hu
  have e : (ad.add j).block = ad.block := by unfold Addr.add; split <;> rfl
  have hb := ha ad.block (hA ad rfl) hlt
  refine ⟨ad, rfl, ?_, (World.cell?_of_block (by rw [e]; exact hb)).trans hc⟩
  have : (W.heap[ad.block]?).isSome := by rw [hb]; simp [hlt]
  simpa using this
theorem OwnV.agr {w W : World} {B : Nat} {v : Value} {xs : List EQ} (h : OwnV w B v xs) (ha : ∀ k, B ≤ k → k < w.heap.size → W.heap[k]? = w.heap[k]?) : OwnV W B v xs := by
  rcases h with ⟨h0, hv | ⟨g, cap, cur, hv, h1, hg, h2⟩⟩
  · exact ⟨h0, .inl hv⟩
  · exact ⟨h0, .inr ⟨g, cap, cur, hv, h1, (ha g h1 (Array.getElem?_eq_some_iff.1 hg).1).trans hg, h2⟩⟩
theorem OwnV.grown {w w' : World} {B : Nat} {v : Value} {xs : List EQ} {row : Option Nat} (h : OwnV w B v xs) (hg : w.grownBy w' row) (hne : v.ownBlock = none ∨ v.ownBlock ≠ row) : OwnV w' B v xs := World.ownsRow.kept h hg hne
/-- the result box O of prints: a parse without parameters, whose pending bytes, if any, lie in memory of the call's own -/
def PrS (base O : Nat) (w : World) (r : PS) : Prop := ∃ A c A2 n2 c2, Box w O (cL r (.slice A r.utf.length c) (.slice A2 n2 c2)) ∧ RS w (.slice A r.utf.length c) (.slice A2 n2 c2) r ∧ (r.utf = [] ∨ ∀ ad, A = some ad → base ≤ ad.block ∧ ad.block < O) ∧ r.ps = []
theorem PrS.move {base O : Nat} {w w' : World} {r : PS} (h : PrS base O w r) (hbx : ∀ cs, Box w O cs → Box w' O cs) (hb : Below O w w') : PrS base O w' r := by
  obtain ⟨A, c, A2, n2, c2, h1, ⟨⟨A', c', e, h2, h3⟩, h4⟩, h5, h6⟩ := h
  cases e
  refine ⟨A, c, A2, n2, c2, hbx _ h1, ⟨⟨A, c, rfl, h2, ?_⟩, ?_⟩, h5, h6⟩
  · rcases h5 with e | e
    · rw [e]; exact Rd.nil _ _
    · exact h3.grown (fun ad ha => (e ad ha).2) hb
  · rw [h6] at h4 ⊢
    exact RL.zero h4
theorem rs_agr {base : Nat} {w W : World} {r : PS} {A : Option Addr} {n c : Nat} {q : Value} (h : RS w (.slice A n c) q r) (h5 : r.utf = [] ∨ ∀ ad, A = some ad → base ≤ ad.block) (h6 : r.ps = []) (ha : ∀ k, base ≤ k → k < w.heap.size → W.heap[k]? = w.heap[k]?) : RS W (.slice A n c) q r := by
  obtain ⟨⟨A', c', e, h2, h3⟩, h4⟩ := h
  cases e
  refine ⟨⟨A, c, rfl, h2, ?_⟩, ?_⟩
  · rcases h5 with e | e
    · rw [e]; exact Rd.nil _ _
    · exact Rd.agr h3 e ha
  · rw [h6] at h4 ⊢
    exact RL.zero h4
theorem OwnV.ne {w : World} {B : Nat} {v : Value} {xs : List EQ} (h : OwnV w B v xs) {O : Nat} (hO : O < B) : v.ownBlock = none ∨ v.ownBlock ≠ some O := by
  cases hb : v.ownBlock with
  | none => exact .inl rfl
  | some k =>
    refine .inr fun e => ?_
    have h9 := (World.ownsRow.lt h k hb).1
    injection e with e
    omega
theorem codS_len (r : PS × List EV) (c : Int) : (codS r c).2.length ≤ r.2.length + 1 := by
  unfold codS
  split
  · rw [List.length_append]
    have : (grdS (UInt8.ofNat c.toNat)).2.length ≤ 1 := by
      unfold grdS
      repeat' split
      all_goals simp
    omega
  · split
    · simp
    · omega
theorem fold_lenS (cs : List Int) (r : PS × List EV) : (cs.foldl codS r).2.length ≤ r.2.length + cs.length := by
  induction cs generalizing r with
  | nil => simp
  | cons c cs ih =>
    have h1 := ih (codS r c)
    have h2 := codS_len r c
    rw [List.foldl_cons, List.length_cons]
    omega
/-- the events so far: a row of the call's own, none with parameters -/
def PrV (base : Nat) (v : Value) (w : World) (l : List EV) : Prop := ∃ xs, OwnV w base v xs ∧ xs.map (·.e) = l ∧ ∀ x ∈ xs, x.e.ps = [] ∧ RL w (.slice x.A x.n x.c) x.e.ps
theorem PrV.rv {base : Nat} {v : Value} {w W : World} {l : List EV} (h : PrV base v w l) (ha : ∀ k, base ≤ k → k < w.heap.size → W.heap[k]? = w.heap[k]?) : RV W v l := by
  obtain ⟨xs, h1, rfl, h2⟩ := h
  refine (h1.agr ha).rv fun x hx => ?_
  obtain ⟨e, h3⟩ := h2 x hx
  rw [e] at h3 ⊢
  exact RL.zero h3
theorem grd_ps (b : UInt8) : (grdS b).1.ps = [] ∧ (grdS b).1.utf = [] ∧ ∀ e ∈ (grdS b).2, e.ps = [] := by
  unfold grdS
  split
  · exact ⟨rfl, rfl, fun e he => by cases he⟩
  · split
    · exact ⟨rfl, rfl, fun e he => by cases he⟩
    · split
      · exact ⟨rfl, rfl, fun e he => by simp at he; rw [he]; rfl⟩
      · split
        · exact ⟨rfl, rfl, fun e he => by cases he⟩
        · exact ⟨rfl, rfl, fun e he => by simp at he; rw [he]; rfl⟩
/-- one at the initial state, for a control code -/
theorem one_grd (b : UInt8) (h : b.toNat < 32 ∨ b.toNat = 127) (w0 w : World) (hw : Pre w0 w) :
    Calls Tryz.prog 31 #[.agg #[.int .i64 0, .slice none 0 0, .int .u8 0, .int .u8 0, .slice none 0 0, .string ⟨#[]⟩, .string ⟨#[]⟩, .bool false], .int .u8 (b.toNat : Int)] w (Ret2 (grdS b) w0 w) := by
  have hr : RS w0 (.slice none 0 0) (.slice none 0 0) (begS 0) := RS.nil _ _ rfl rfl
  unfold grdS
  by_cases k1 : b.toNat = 24
  · rw [if_pos (.inl k1)]; exact one_24_0 (begS 0) b none none 0 0 0 0 w0 w hr hw rfl rfl k1
  · by_cases k2 : b.toNat = 26
    · rw [if_pos (.inr k2)]; exact one_26_0 (begS 0) b none none 0 0 0 0 w0 w hr hw rfl rfl k2
    · rw [if_neg (fun e => e.elim k1 k2)]
      by_cases k3 : b.toNat = 27
      · rw [if_pos k3]; exact one_27_0 (begS 0) b none none 0 0 0 0 w0 w hr hw rfl rfl k3
      · rw [if_neg k3]
        by_cases k4 : b.toNat < 32
        · rw [if_pos k4]; exact one_c_0 (begS 0) b none none 0 0 0 0 w0 w hr hw rfl rfl ⟨k1, k2, k3⟩ k4
        · rw [if_neg k4]
          have k5 : b.toNat = 127 := h.resolve_left k4
          rw [if_pos k5]; exact one_127_0 (begS 0) b none none 0 0 0 0 w0 w hr hw rfl rfl k5
set_option maxRecDepth 100000 in
set_option maxHeartbeats 8000000 in
theorem prints_any (p : PS) (b : UInt8) (au aq : Option Addr) (nu cu nq cq : Nat) (w0 w : World) (hr : RS w0 (.slice au nu cu) (.slice aq nq cq) p) (hw : Pre w0 w) (hu : p.utf.length ≤ 100000) :
    Calls Tryz.prog 51 #[.agg (cS p (.slice au nu cu) (.slice aq nq cq)), .int .u8 (b.toNat : Int)] w (Ret2 (prtS p.utf b) w0 w) := by
  obtain ⟨st, utf, pr, fi, pp, it, tx, bad⟩ := p
  dsimp only at *
  obtain ⟨A9, c9, e9, hcu, hrd⟩ := hr.1
  cases e9
  have hcd : Rd w au (cB utf) := Rd.keepP hrd hw
  have HW0 := Lib.hid hw
  clear hr hw hrd hcu
  have HP := Lib.hid (fun W (hb : Below w.heap.size w W) => rstep_anyH au cu utf.length utf b rfl W (hcd.below hb) hu)
  obtain ⟨codes, hcodes⟩ : ∃ cs, cs = (stepL utf b).2 := ⟨_, rfl⟩
  obtain ⟨rest, hrest⟩ : ∃ cs, cs = (stepL utf b).1 := ⟨_, rfl⟩
  have hl := stepL_len utf b
  have hpos := step_pos utf b
  rw [← hcodes] at hl hpos
  have HC := Lib.hid hcodes
  have HR := Lib.hid hrest
  have HPOS := Lib.hid hpos
  have hl2 := hl.2
  clear hcd hcodes hrest hl hpos
  generalize utf.length = nu at HP hu
  unfold cS
  dsimp only
  go_enter Tryz.func51, Tryz.ntmps51
  go_wp2_with (first
    | (go_at_call 70; refine (HP.out _ (up (below_box _ _) (below_box _ _))).mono ?_; rintro e w2 ⟨A1, c1, A2, c2, rfl, hc1, -, hr1, hr2, hb2, hi1, hi2⟩; rw [← HC.out] at hr2; rw [← HR.out] at hr1 hc1; rw [← HC.out, ← HR.out])
    | (go_at_call 52; refine (begin_any 0 _).mono ?_; rintro e w3 ⟨rfl, hb3⟩))
  obtain ⟨R, hRdef⟩ : ∃ R : Nat → PS × List EV, R = fun k => (codes.take k).foldl codS ({ begS 0 with utf := rest }, []) := ⟨_, rfl⟩
  have HRD := Lib.hid hRdef
  have hz2 := hb2.size
  rw [World.size_alloc, World.size_alloc] at hz2
  have hz3 := hb3.size
  have HB3 := Lib.hid (show Below w.heap.size w w3 from up (up (up (below_box _ _) (below_box _ _)) hb2) hb3)
  have HR2 := Lib.hid (hr2.below hb3)
  have HZ := Lib.hid (show Box w3 (w.heap.size + 1) [.int .i64 0, .slice none 0 0, .int .u8 0, .int .u8 0, .slice none 0 0, .string ⟨#[]⟩, .string ⟨#[]⟩, .bool false] from by
    have := Box.new (w.alloc (.cells #[.int .i64 st, .slice au nu cu, .int .u8 (pr.toNat : Int), .int .u8 (fi.toNat : Int), .slice aq nq cq, .string it, .string tx, .bool bad] 25)) #[.int .i64 0, .slice none 0 0, .int .u8 0, .int .u8 0, .slice none 0 0, .string ⟨#[]⟩, .string ⟨#[]⟩, .bool false] 25
    rw [World.size_alloc] at this
    exact (this.keep hb2).keep hb3)
  have HLT := Lib.hid (show ∀ ad, A1 = some ad → rest ≠ [] → ad.block < w3.heap.size from fun ad e hne => by
    cases hrest : rest with
    | nil => exact absurd hrest hne
    | cons x y =>
      rw [hrest] at hr1
      obtain ⟨ad', e', hlt, _⟩ := hr1 0 _ rfl
      rw [e] at e'
      cases e'
      omega)
  have HS0 := Lib.hid (show PrS (w.heap.size + 2) w3.heap.size (w3.alloc (.cells #[.int .i64 0, .slice A1 rest.length c1, .int .u8 0, .int .u8 0, .slice none 0 0, .string ⟨#[]⟩, .string ⟨#[]⟩, .bool false] 25)) (R 0).1 from by
    rw [HRD.out]
    exact ⟨A1, c1, none, 0, 0, Box.new w3 _ _, ⟨⟨A1, c1, rfl, hc1, (hr1.below hb3).below (below_box _ _)⟩, RL.nil _⟩, (by
      by_cases hne : rest = []
      · exact .inl hne
      · exact .inr (fun ad e => ⟨Nat.le_trans (by simp) (hi1 ad e), HLT.out ad e hne⟩)), rfl⟩)
  have HV0 := Lib.hid (show PrV (w3.heap.size + 1) (.slice none 0 0) (w3.alloc (.cells #[.int .i64 0, .slice A1 rest.length c1, .int .u8 0, .int .u8 0, .slice none 0 0, .string ⟨#[]⟩, .string ⟨#[]⟩, .bool false] 25)) (R 0).2 from by
    rw [HRD.out]
    exact ⟨[], OwnV.nil _ _, rfl, fun x hx => by cases hx⟩)
  have hN : codes.length ≤ 2 := hl2
  have hRs := fun k c (h : codes[k]? = some c) => fold_take codS codes k c ({ begS 0 with utf := rest }, []) h
  have HRS := Lib.hid (show ∀ k c, codes[k]? = some c → R (k + 1) = codS (R k) c by rw [hRdef]; exact hRs)
  have HLN := Lib.hid (show ∀ k, (R k).2.length ≤ k by
    rw [hRdef]
    intro k
    have h8 := fold_lenS (codes.take k) ({ begS 0 with utf := rest }, [])
    have h9 : (codes.take k).length ≤ k := by rw [List.length_take]; omega
    exact Nat.le_trans h8 (by simp only [List.length_nil]; omega))
  have HRN := Lib.hid (show R codes.length = prtS utf b by rw [hRdef]; show (codes.take codes.length).foldl codS _ = _; rw [List.take_length, prt_is, ← HC.out, ← HR.out]; rfl)
  clear hb2 hb3 hr1 hr2 hi1 hi2 hc1 hRs hRdef hl2
  obtain ⟨N, hNl⟩ : ∃ N, N = codes.length := ⟨_, rfl⟩
  rw [← hNl] at hN HRN ⊢
  have HNL := Lib.hid hNl
  clear hNl
  go_loopw [9, 10] (fun v iv wr => ∃ k : Nat, k ≤ N ∧ iv = .int .i64 k ∧ Hid (PrS (w.heap.size + 2) w3.heap.size wr (R k).1 ∧ PrV (w3.heap.size + 1) v wr (R k).2 ∧ Below w3.heap.size w3 wr)) (fun _ iv _ => N - (intOf iv).toNat)
  case atStart => exact ⟨0, by omega, rfl, HS0.out, HV0.out, below_box _ _⟩
  case round =>
    clear HS0 HV0
    obtain ⟨k, hk, rfl, hid⟩ := hrel
    obtain ⟨hps, hpv, hbw⟩ := hid.out
    clear hid
    have HBW := Lib.hid hbw
    by_cases hkN : k < N
    · obtain ⟨c, hc⟩ : ∃ c, codes[k]? = some c := ⟨codes[k]'(by rw [← HNL.out]; exact hkN), List.getElem?_eq_getElem _⟩
      have HK := Lib.hid (HRS.out k c hc)
      obtain ⟨ad, rfl, hadl, hcell⟩ := (HR2.out.below hbw) k _ (cI_at codes k c hc)
      have hc0 := HPOS.out c (List.mem_of_getElem? hc)
      have i1 : (0 : Int) ≤ (k : Int) := by omega
      have i2 : (k : Int) < (N : Int) := by omega
      have HPS := Lib.hid hps
      have hlen := HLN.out k
      obtain ⟨A5, c5, A6, n6, c6, hbx, -, -, -⟩ := hps
      have HV := Lib.hid hpv
      clear hbw hc hpv
      generalize R k = r at HK hbx HV HPS hlen
      obtain ⟨⟨rst, rutf, rpr, rfi, rps, rit, rtx, rbad⟩, rl⟩ := r
      unfold cL at hbx
      dsimp only at hbx HV
      have HBX := Lib.hid hbx
      clear hbx
      by_cases h32 : c < 32 ∨ c = 127
      · obtain ⟨b', hb'⟩ : ∃ b' : UInt8, b' = UInt8.ofNat c.toNat := ⟨_, rfl⟩
        have hcb : c = (b'.toNat : Int) ∧ (b'.toNat < 32 ∨ b'.toNat = 127) := by
          rw [hb', UInt8.toNat_ofNat']
          rcases h32 with e | e <;> constructor <;> omega
        obtain ⟨hcb1, hcb2⟩ := hcb
        have HE := Lib.hid (show R (k + 1) = ((grdS b').1, rl ++ (grdS b').2) by rw [HK.out]; unfold codS; rw [if_pos h32, ← hb'])
        have hwu : IntKind.u8.wrap c = (b'.toNat : Int) := by rw [hcb1, IntKind.wrap_u8]; have := b'.toNat_lt; omega
        have HG := Lib.hid (fun W (hb : Below w3.heap.size w3 W) => one_grd b' hcb2 w3 W (Pre.of_below hb))
        have HGP := Lib.hid (grd_ps b')
        obtain ⟨xs, hown, hmap, hxs⟩ := HV.out
        have hxl : xs.length ≤ 2 := by
          have : xs.length = rl.length := by rw [← hmap]; simp
          simp only at hlen
          omega
        have HOW := Lib.hid hown
        obtain ⟨Av, cv, hform, _, _⟩ := hown.form
        subst hform
        have HMX := Lib.hid (And.intro hmap hxs)
        have hsz := HBW.out.size
        have hO := HBX.out.1
        have q32 : decide (c < 32) = true ∨ (decide (c < 32) = false ∧ (c == 127) = true) := by
          rcases h32 with e | e
          · exact .inl (decide_eq_true e)
          · exact .inr ⟨decide_eq_false (by omega), by simp [e]⟩
        clear h32 HK hown hmap hxs HV hlen hb' hcb1 hcb2 hc0
        rcases q32 with d32 | ⟨d32, e127⟩
        all_goals
          go_wp2_with (first
            | (go_at_call 52; refine (begin_any 0 _).mono ?_; rintro e w5 ⟨rfl, hb5⟩)
            | (go_at_call 31; refine (HG.out _ (up HBW.out hb5)).mono ?_; rintro e w6 ⟨u, q, v, rfl, hv6, hb6⟩; have hf := hv6 w6 ⟨Pre.of_below (up (up HBW.out hb5) hb6), fun k _ _ => rfl⟩; generalize grdS b' = g at *; have HV6 := Lib.hid hv6; clear hv6 HG; obtain ⟨⟨gst, gutf, gpr, gfi, gps, git, gtx, gbad⟩, gl⟩ := g; obtain ⟨A7, c7, hu1⟩ := hf.1.1.form; obtain ⟨A8, c8, hq1⟩ := hf.1.2.form; obtain ⟨A9, c9, hv1⟩ := hf.2.form; dsimp only at hu1 hq1 hv1; subst hu1; subst hq1; subst hv1; clear hf; unfold cS; dsimp only; have hx6 := (HBX.out.keep hb5).keep hb6; have HB5 := Lib.hid hb5; have HB6 := Lib.hid hb6; clear hb5 hb6; obtain ⟨z0, y0, z1, y1, z2, y2, z3, y3, z4, y4, z5, y5, z6, y6, z7, y7⟩ := cf8 hx6; have l6 := hx6.1; have HX6 := Lib.hid hx6; clear hx6)
            | (at_builtin
               have hbx := box_set8 (.int .i64 gst) (.slice A7 gutf.length c7) (.int .u8 (gpr.toNat : Int)) (.int .u8 (gfi.toNat : Int)) (.slice A8 gps.length c8) (.string git) (.string gtx) (.bool gbad) HX6.out
               have hbl := below_set8 w3.heap.size (.int .i64 gst) (.slice A7 gutf.length c7) (.int .u8 (gpr.toNat : Int)) (.int .u8 (gfi.toNat : Int)) (.slice A8 gps.length c8) (.string git) (.string gtx) (.bool gbad) (up (up HBW.out HB5.out) HB6.out) (Nat.le_refl _)
               have hgr := grown_set8 w6 w3.heap.size (.int .i64 gst) (.slice A7 gutf.length c7) (.int .u8 (gpr.toNat : Int)) (.int .u8 (gfi.toNat : Int)) (.slice A8 gps.length c8) (.string git) (.string gtx) (.bool gbad)
               have hs8 := size_set8 w6 w3.heap.size (.int .i64 gst) (.slice A7 gutf.length c7) (.int .u8 (gpr.toNat : Int)) (.int .u8 (gfi.toNat : Int)) (.slice A8 gps.length c8) (.string git) (.string gtx) (.bool gbad)
               generalize (World.setCell (World.setCell (World.setCell (World.setCell (World.setCell (World.setCell (World.setCell (World.setCell w6 _ _) _ _) _ _) _ _) _ _) _ _) _ _) _ _) = W8 at hbx hbl hgr hs8 ⊢
               have hs5 := HB5.out.size
               have hs6 := HB6.out.size
               obtain ⟨hrs8, A9', c9', ys, e9, hy1, hy2, hy3, hy4, hy5⟩ := HV6.out (W8.alloc (.cells #[.int .i64 gst, .slice A7 gutf.length c7, .int .u8 (gpr.toNat : Int), .int .u8 (gfi.toNat : Int), .slice A8 gps.length c8, .string git, .string gtx, .bool gbad] 25)) ⟨Pre.of_below (hbl.alloc (by omega) _), fun k h1 h2 => (Below.heap_alloc _ _ k (by omega)).trans (hgr.block k h2 (by simp; omega))⟩
               cases e9
               have hl9 := HLN.out (k + 1)
               rw [HE.out] at hl9
               dsimp only at hl9 hy1 hy3
               rw [List.length_append] at hl9
               have hxr : xs.length = rl.length := by rw [← HMX.out.1]; simp
               have hyl : ys.length = gl.length := by rw [← hy3]; simp
               refine wpList_appV _ rfl _ _ rfl (w3.heap.size + 1) _ xs rfl ((((HOW.out.keep HB5.out).keep HB6.out).grown hgr (OwnV.ne ((HOW.out.keep HB5.out).keep HB6.out) (Nat.lt_succ_self _))).keep (below_box _ _)) A9 gl.length c9 ys rfl hyl hy4 (by omega) (by rw [World.size_alloc]; omega) ?_
               intro v' w' hown' hb' hg'
               obtain ⟨Av2, cv2, hform2, _, _⟩ := hown'.form
               subst hform2
               have HBX8 := Lib.hid hbx
               have HBL8 := Lib.hid hbl
               rw [List.length_append, hxr, hyl] at hown'
               have HO8 := Lib.hid hown'
               have HB8 := Lib.hid hb'
               have HY := Lib.hid (And.intro hy3 (And.intro hy5 hrs8))
               clear hbx hbl hgr hy3 hy4 hy5 hown' hb' hg' hrs8))
          have hz8 := HBX8.out.1
          refine ⟨⟨k + 1, by omega, by go_num, Lib.hid ⟨?_, ?_, (HBL8.out.trans ((below_box _ _).mono (by omega))).trans (HB8.out.mono (by omega))⟩⟩, ?_⟩
          · rw [HE.out]
            exact PrS.move ⟨A7, c7, A8, _, c8, HBX8.out.alloc _, HY.out.2.2, .inl HGP.out.2.1, HGP.out.1⟩ (fun cs hb9 => hb9.below HB8.out (by omega)) (HB8.out.mono (by omega))
          · rw [HE.out]
            refine ⟨xs ++ ys, HO8.out, by rw [List.map_append, HMX.out.1, HY.out.1], fun x hx => ?_⟩
            rcases List.mem_append.1 hx with h9 | h9
            · obtain ⟨e1, e2⟩ := HMX.out.2 x h9
              refine ⟨e1, ?_⟩
              rw [e1] at e2 ⊢
              exact RL.zero e2
            · have e2 := HY.out.2.1 x h9
              have e1 : x.e.ps = [] := HGP.out.2.2 _ (by rw [← HY.out.1]; exact List.mem_map.2 ⟨x, h9, rfl⟩)
              refine ⟨e1, ?_⟩
              rw [e1] at e2 ⊢
              exact RL.zero e2
          · show N - ((k : Int) + 1).toNat < N - (k : Int).toNat
            omega
      · have d32 : decide (c < 32) = false := decide_eq_false (fun e => h32 (.inl e))
        have e127 : (c == 127) = false := by simp; exact fun e => h32 (.inr e)
        by_cases h159 : c < 127 ∨ 159 < c
        · have HE := Lib.hid (show R (k + 1) = ((⟨rst, rutf, rpr, rfi, rps, rit, rtx, rbad⟩, rl ++ [prE c]) : PS × List EV) by rw [HK.out]; unfold codS; rw [if_neg h32, if_pos h159])
          obtain ⟨xs, hown, hmap, hxs⟩ := HV.out
          have hxl : xs.length ≤ 2 := by
            have : xs.length = rl.length := by rw [← hmap]; simp
            simp only at hlen
            omega
          have HOW := Lib.hid hown
          obtain ⟨Av, cv, hform, _, _⟩ := hown.form
          subst hform
          have HMX := Lib.hid (And.intro hmap hxs)
          have hsz := HBW.out.size
          have q127 : decide (c < 127) = true ∨ (decide (c < 127) = false ∧ decide (159 < c) = true) := by
            rcases h159 with e | e
            · exact .inl (decide_eq_true e)
            · exact .inr ⟨decide_eq_false (by omega), decide_eq_true e⟩
          clear h32 h159 HK hown hmap hxs HV hlen
          have hO := HBX.out.1
          rcases q127 with d127 | ⟨d127, d159⟩
          all_goals
            go_wp2_with (at_builtin; refine wpList_appV _ rfl _ _ rfl (w3.heap.size + 1) _ xs rfl (HOW.out.keep (below_box _ _)) (some ⟨wr.heap.size, 0, none⟩) 1 1 [⟨prE c, none, 0, 0⟩] rfl rfl (RdE.one wr ⟨prE c, none, 0, 0⟩ 27) (by omega) (by rw [World.size_alloc]; omega) ?_; intro v' w' hown' hb' hg'; obtain ⟨Av2, cv2, hform2, _, _⟩ := hown'.form; rw [List.length_append, List.length_singleton] at hform2; subst hform2)
            have hbo : Below w3.heap.size wr w' := ((below_box wr _).mono (by omega)).trans (hb'.mono (by omega))
            refine ⟨⟨k + 1, by omega, by go_num, Lib.hid ⟨by rw [HE.out]; exact HPS.out.move (fun cs hb9 => (hb9.alloc _).below hb' (by omega)) hbo, ?_, HBW.out.trans hbo⟩⟩, ?_⟩
            · rw [HE.out]
              refine ⟨xs ++ [⟨prE c, none, 0, 0⟩], hown', by rw [List.map_append, HMX.out.1]; rfl, fun x hx => ?_⟩
              rcases List.mem_append.1 hx with h9 | h9
              · obtain ⟨e1, e2⟩ := HMX.out.2 x h9
                refine ⟨e1, ?_⟩
                rw [e1] at e2 ⊢
                exact RL.zero e2
              · obtain rfl : x = ⟨prE c, none, 0, 0⟩ := by simpa using h9
                exact ⟨rfl, RL.nil _⟩
            · show N - ((k : Int) + 1).toNat < N - (k : Int).toNat
              omega
        · have d127 : decide (c < 127) = false := decide_eq_false (fun e => h159 (.inl e))
          have d159 : decide (159 < c) = false := decide_eq_false (fun e => h159 (.inr e))
          have HE := Lib.hid (show R (k + 1) = ((⟨rst, rutf, rpr, rfi, rps, rit, rtx, rbad⟩, rl) : PS × List EV) by rw [HK.out]; unfold codS; rw [if_neg h32, if_neg h159])
          clear h32 h159 HK
          go_wp2_with fail
          refine ⟨⟨k + 1, by omega, by go_num, Lib.hid ⟨by rw [HE.out]; exact HPS.out, by rw [HE.out]; exact HV.out, HBW.out⟩⟩, ?_⟩
          show N - ((k : Int) + 1).toNat < N - (k : Int).toNat
          omega
    · obtain rfl : k = N := by omega
      have HPS := Lib.hid hps
      rw [HRN.out] at hps hpv
      have HV := Lib.hid hpv
      have HB2 := Lib.hid (up HB3.out hbw)
      have hzz : Box wr (w.heap.size + 1) _ := HZ.out.below hbw (by omega)
      generalize prtS utf b = r at *
      obtain ⟨A5, c5, A6, n6, c6, hbx, hrs, hut, hps0⟩ := hps
      have HRF := Lib.hid (And.intro hrs (And.intro hut hps0))
      obtain ⟨⟨rst, rutf, rpr, rfi, rps, rit, rtx, rbad⟩, rl⟩ := r
      unfold cL at hbx
      dsimp only at hbx
      clear hpv hbw hrs hut hps0
      have z0 := hbx.cell 0 _ rfl; have z1 := hbx.cell 1 _ rfl; have z2 := hbx.cell 2 _ rfl; have z3 := hbx.cell 3 _ rfl; have z4 := hbx.cell 4 _ rfl; have z5 := hbx.cell 5 _ rfl; have z6 := hbx.cell 6 _ rfl; have z7 := hbx.cell 7 _ rfl; obtain ⟨x0, y0, x1, y1, x2, y2, x3, y3, x4, y4, x5, y5, x6, y6, x7, y7⟩ := cf8 hzz; have l8 := hbx.1; have l9 := hzz.1
      have HZZ := Lib.hid hzz
      clear hbx hzz
      go_wp2_with fail
      refine bodyPost_ret (ret_cell rfl _ _ ⟨w.heap.size + 1, 0, none⟩ _ rfl (load_par8 _ _ _ _ _ _ _ _ _ _ (box_set8 _ _ _ _ _ _ _ _ HZZ.out))) rfl ?_
      refine ⟨_, _, _, rfl, fun W hW => ?_, below_set8 _ _ _ _ _ _ _ _ _ HB2.out (by omega)⟩
      have ha : ∀ j, w.heap.size + 2 ≤ j → j < wr.heap.size → W.heap[j]? = wr.heap[j]? := fun j h1 h2 => (hW.2 j (by omega) (by rw [size_set8]; exact h2)).trans ((grown_set8 wr (w.heap.size + 1) (.int .i64 rst) (.slice A5 rutf.length c5) (.int .u8 (rpr.toNat : Int)) (.int .u8 (rfi.toNat : Int)) (.slice A6 n6 c6) (.string rit) (.string rtx) (.bool rbad)).block j h2 (by simp; omega))
      exact ⟨rs_agr HRF.out.1 (HRF.out.2.1.imp id fun h ad e => (h ad e).1) HRF.out.2.2 ha, PrV.rv HV.out fun j h1 h2 => ha j (by omega) h2⟩
end Go.Proofs.YtmboekpomjgnnaaGreatDoor.Sta
