/-
  Contracts of Parse's deferred closure and of Parse.
-/
import Derived.Test.YtoilcigmpeaedaaGreatDoorOscI
import Derived.Defers
import Derived.Recover
namespace Go.Proofs.YtoilcigmpeaedaaGreatDoor.Osc
open Go.RowKit Utf Col

theorem catch_panicking (p q : Nat) (k n m c0 c1 : Int) (t : List UInt8) (b : Bool) (u : TypeId) (pv : Value) (older : List PanicEntry) (w : World) (hp : B64.Box w p (c6 k n m c0 c1 t)) (hq : B64.Box w q [.bool b]) (hpq : ¬ p = q) :
    CallsD Tryz.prog 33 #[.pointer (some ⟨p, 0, none⟩), .pointer (some ⟨q, 0, none⟩)] (.panicking ({ v := .iface u pv, recovered := false } :: older)) w fun e u' w' =>
      e = .returned (.tuple #[]) ∧ u' = .panicking ({ v := .iface u pv, recovered := true } :: older) ∧ w' = (set6 w p ⟨0, 0, 0, 0, 0, []⟩).setCell ⟨q, 0, none⟩ (.bool false) := by
  obtain ⟨y0, y1, y2, y3, y4, y5⟩ := box6 hp
  have f0 := hp.free 0 (by show 0 < 6; decide)
  have f1 := hp.free 1 (by show 1 < 6; decide)
  have f2 := hp.free 2 (by show 2 < 6; decide)
  have f3 := hp.free 3 (by show 3 < 6; decide)
  have f4 := hp.free 4 (by show 4 < 6; decide)
  have f5 := hp.free 5 (by show 5 < 6; decide)
  have z0 := hq.cell 0 _ rfl
  have g0 := hq.free 0 (by show 0 < 1; decide)
  refine callsD_of_wpS Tryz.func33 rfl fun cc cs hu => ?_
  apply wpS_seq
  apply wpS_region
  simp [wpOpsS, go_sem, recoverD, hu, Tryz.ntmps33, Exit.thenS]
  refine wpS_cond (t := true) (by simp [Act.eval, Array.replicate]) ?_
  simp only [if_true]
  apply wpS_region
  simp [wpOpsS, go_sem, y0, y1, y2, y3, y4, y5, f0, f1, f2, f3, f4, f5, z0, g0, bodyPostS, results, Tryz.results33]
  rfl
theorem catch_idle (p q : Nat) (w : World) :
    CallsD Tryz.prog 33 #[.pointer (some ⟨p, 0, none⟩), .pointer (some ⟨q, 0, none⟩)] .returning w fun e u' w' => e = .returned (.tuple #[]) ∧ u' = .returning ∧ w' = w := by
  refine callsD_of_wpS Tryz.func33 rfl fun cc cs hu => ?_
  apply wpS_seq
  apply wpS_region
  simp [wpOpsS, go_sem, recoverD, hu, Tryz.ntmps33, Exit.thenS]
  refine wpS_cond (t := false) (by simp [Act.eval, Array.replicate]) ?_
  simp only [Bool.false_eq_true, if_false]
  refine wpS_of_wp (wp_skip ?_)
  cases cc
  simp_all [bodyPostS, results, Tryz.results33]
def parV (o : Option A6) : Value := match o with
  | some a => .tuple #[actV a, .bool true]
  | none => .tuple #[actV ⟨0, 0, 0, 0, 0, []⟩, .bool false]
theorem ret_cell2 {P : Program} {fn : Func} {p q : Tmp} {ty tz : TypeId} (h : fn.results = #[.cell p ty, .cell q tz]) (tmps : Array Value) (w : World) (a b : Addr) (v u : Value) (ha : tmps.getD p undef = .pointer (some a)) (hb : tmps.getD q undef = .pointer (some b)) (hl : (loadVar ty a).run P w = .ok v w) (hm : (loadVar tz b).run P w = .ok u w) :
    (results fn tmps).run P w = .ok (.tuple #[v, u]) w := by
  have ha' : tmps[p]?.getD undef = .pointer (some a) := by simpa using ha
  have hb' : tmps[q]?.getD undef = .pointer (some b) := by simpa using hb
  simp only [results, h]
  simp [ha', hb', asAddr, hl, hm]
theorem box1_new (w : World) (o : Obj) : B64.Box ((w.alloc o).alloc (.cells #[.bool false] 4)) (w.heap.size + 1) [.bool false] := by
  have := B64.Box.new (w.alloc o) #[.bool false] 4
  rwa [show (w.alloc o).heap.size = w.heap.size + 1 by simp] at this
theorem set6_size (w : World) (B : Nat) (a : A6) : (set6 w B a).heap.size = w.heap.size := by simp [set6]
theorem shut_panic (w W : World) (tmps : Array Value) (p q : Nat) (h2 : tmps.getD 2 undef = .pointer (some ⟨p, 0, none⟩)) (h3 : tmps.getD 3 undef = .pointer (some ⟨q, 0, none⟩)) (hp : B64.Box W p z6) (hq : B64.Box W q [.bool false]) (hpq : ¬ p = q) (h1 : w.heap.size ≤ p) (h4 : w.heap.size ≤ q) (hb : Below w.heap.size w W) :
    bodyPostD Tryz.prog Tryz.f13 (fun e w' => e = Ending.returned (parV none) ∧ Below w.heap.size w w') (Exit.panic mal) { tmps := tmps, defers := [{ target := Target.fn (Fn.func 33) #[.pointer (some ⟨p, 0, none⟩), .pointer (some ⟨q, 0, none⟩)], args := #[] }] } W := by
  refine leaves_cons (f := 33) (args := #[.pointer (some ⟨p, 0, none⟩), .pointer (some ⟨q, 0, none⟩)]) (by simp) (by simp [go_sem]) ?_
  refine (catch_panicking p q 0 0 0 0 0 [] false _ _ [] W hp hq hpq).mono ?_
  rintro e u' w'' ⟨rfl, rfl, rfl⟩
  have r1 := load_act ((box_set6 hp ⟨0, 0, 0, 0, 0, []⟩).at (by simp) ((B64.grown_set _ q 0 _).block p (by rw [set6_size]; exact hp.1) (fun e => hpq (by injection e))) : B64.Box ((set6 W p ⟨0, 0, 0, 0, 0, []⟩).setCell ⟨q, 0, none⟩ (.bool false)) p _)
  have r2 : (loadVar 4 ⟨q, 0, none⟩).run Tryz.prog ((set6 W p ⟨0, 0, 0, 0, 0, []⟩).setCell ⟨q, 0, none⟩ (.bool false)) = .ok (.bool false) ((set6 W p ⟨0, 0, 0, 0, 0, []⟩).setCell ⟨q, 0, none⟩ (.bool false)) := by
    have hc : (set6 W p ⟨0, 0, 0, 0, 0, []⟩).cell? ⟨q, 0, none⟩ = some (.bool false) := (set6_cell hpq _ 0).trans (hq.cell 0 _ rfl)
    go_simp
  exact ⟨_, ret_cell2 rfl tmps _ ⟨p, 0, none⟩ ⟨q, 0, none⟩ _ _ h2 h3 r1 r2, rfl, (below_set6 hb h1 ⟨0, 0, 0, 0, 0, []⟩).setCell (p := ⟨q, 0, none⟩) h4 _⟩
set_option maxRecDepth 100000 in
set_option maxHeartbeats 4000000 in
theorem parse_long (s : ByteArray) (w : World) (hs : ¬ (s.size : Int) ≤ 512) : Calls Tryz.prog 13 #[.string s] w fun e w' => e = .returned (parV none) ∧ Below w.heap.size w w' := by
  have hmf : ∀ (fn : Fn) (first cap : Array Value) (w : World), (Instr.makeFunc fn first cap).run Tryz.prog w = .ok (.func fn first cap) w := fun _ _ _ _ => rfl
  have d5 : decide ((s.size : Int) ≤ 512) = false := decide_eq_false hs
  go_enter_defers Tryz.func13, Tryz.ntmps13
  go_wp2_with (go_at_call 34; refine (demand_no _).mono ?_; rintro e w1 ⟨rfl, rfl⟩)
  exact shut_panic w _ _ w.heap.size (w.heap.size + 1) rfl rfl ((bz_new w).alloc _) (box1_new w _) (by omega) (by omega) (by omega) (B64.up (B64.below_box _ _) (B64.below_box _ _))
theorem handlers_at (r : ByteArray) (w : World) : Calls Tryz.prog 36 #[.string r] w fun e w' => ∃ b g, e = .returned (.map (some g)) ∧ B64.Box w' b [.string r] ∧ w'.heap[g]? = some (.map (entO b).toArray 4) ∧ Below w.heap.size w w' :=
  (handlers_any r w).mono fun e w' ⟨he, hw⟩ => ⟨w.heap.size, w.heap.size + 1, he, by rw [hw]; exact (B64.Box.new w _ _).alloc _, by
    rw [hw]
    have := heap_alloc_new (w.alloc (.cells #[.string r] 9)) (.map (entO w.heap.size).toArray 4)
    rwa [show (w.alloc (.cells #[.string r] 9)).heap.size = w.heap.size + 1 by simp] at this, by rw [hw]; exact B64.up (B64.below_box _ _) (B64.below_box _ _)⟩
theorem look_at (b g : Nat) (w : World) (h : w.heap[g]? = some (.map (entO b).toArray 4)) (a : List UInt8) (i : Nat) (v : Value) (hk : Instr.findNow .string (.string ⟨a.toArray⟩) (entO b) 0 = some (some (i, v))) :
    (Instr.lookup 61 (.map (some g)) (.string ⟨a.toArray⟩) true).run Tryz.prog w = .ok (.tuple #[v, .bool true]) w := by
  obtain ⟨z, hz⟩ := look_run b g w h _ _ hk
  exact hz
theorem look_no (b g : Nat) (w : World) (h : w.heap[g]? = some (.map (entO b).toArray 4)) (a : List UInt8) (h0 : ¬ a = [48]) (h2 : ¬ a = [50]) (h4 : ¬ a = [52]) (h52 : ¬ a = [53, 50]) :
    ∃ z, (Instr.lookup 61 (.map (some g)) (.string ⟨a.toArray⟩) true).run Tryz.prog w = .ok (.tuple #[z, .bool false]) w := by
  obtain ⟨z, hz⟩ := look_run b g w h _ _ (find_no b a h0 h2 h4 h52)
  exact ⟨z, hz⟩
/-- the two boxes of Parse's results, and the world as far as it has come -/
structure PB (w W : World) : Prop where
  p : B64.Box W w.heap.size z6
  q : B64.Box W (w.heap.size + 1) [.bool false]
  b : Below w.heap.size w W
  e : Env W
theorem PB.new {w : World} (h : Env w) : PB w ((w.alloc (.cells #[.int .i64 0, .int .i64 0, .int .i64 0, .int .i64 0, .int .i64 0, .string ⟨#[]⟩] 25)).alloc (.cells #[.bool false] 4)) :=
  ⟨(bz_new w).alloc _, box1_new w _, B64.up (B64.below_box _ _) (B64.below_box _ _), (h.keep (B64.below_box _ _)).keep (B64.below_box _ _)⟩
theorem PB.keep {w W W' : World} (h : PB w W) (hb : Below W.heap.size W W') : PB w W' := ⟨h.p.keep hb, h.q.keep hb, B64.up h.b hb, h.e.keep hb⟩
theorem shut_good (w W : World) (x : A6) (tmps : Array Value) (p q : Nat) (h2 : tmps.getD 2 undef = .pointer (some ⟨p, 0, none⟩)) (h3 : tmps.getD 3 undef = .pointer (some ⟨q, 0, none⟩)) (b1 : B64.Box W p z6) (b2 : B64.Box W q [.bool false]) (hpq : ¬ p = q) (h1 : w.heap.size ≤ p) (h4 : w.heap.size ≤ q) (hb : Below w.heap.size w W) :
    bodyPostD Tryz.prog Tryz.f13 (fun e w' => e = Ending.returned (parV (some x)) ∧ Below w.heap.size w w') Exit.ret { tmps := tmps, defers := [{ target := Target.fn (Fn.func 33) #[.pointer (some ⟨p, 0, none⟩), .pointer (some ⟨q, 0, none⟩)], args := #[] }] } ((set6 W p x).setCell ⟨q, 0, none⟩ (.bool true)) := by
  have r1 := load_act ((box_set6 b1 x).at (by simp) ((B64.grown_set _ q 0 _).block p (by rw [set6_size]; exact b1.1) (fun e => hpq (by injection e))) : B64.Box ((set6 W p x).setCell ⟨q, 0, none⟩ (.bool true)) p _)
  have r2 : (loadVar 4 ⟨q, 0, none⟩).run Tryz.prog ((set6 W p x).setCell ⟨q, 0, none⟩ (.bool true)) = .ok (.bool true) ((set6 W p x).setCell ⟨q, 0, none⟩ (.bool true)) := by
    have hc : (set6 W p x).cell? ⟨q, 0, none⟩ = some (.bool false) := (set6_cell hpq _ 0).trans (b2.cell 0 _ rfl)
    go_simp
  refine leaves_cons (f := 33) (args := #[.pointer (some ⟨p, 0, none⟩), .pointer (some ⟨q, 0, none⟩)]) (by simp) (by simp [go_sem]) ?_
  refine (catch_idle p q _).mono ?_
  rintro e u' w'' ⟨rfl, rfl, rfl⟩
  exact ⟨_, ret_cell2 rfl tmps _ ⟨p, 0, none⟩ ⟨q, 0, none⟩ _ _ h2 h3 r1 r2, rfl, (below_set6 hb h1 x).setCell (p := ⟨q, 0, none⟩) h4 _⟩
theorem PB.good {w W : World} (h : PB w W) (x : A6) (tmps : Array Value) (h2 : tmps.getD 2 undef = .pointer (some ⟨w.heap.size, 0, none⟩)) (h3 : tmps.getD 3 undef = .pointer (some ⟨w.heap.size + 1, 0, none⟩)) :
    bodyPostD Tryz.prog Tryz.f13 (fun e w' => e = Ending.returned (parV (some x)) ∧ Below w.heap.size w w') Exit.ret { tmps := tmps, defers := [{ target := Target.fn (Fn.func 33) #[.pointer (some ⟨w.heap.size, 0, none⟩), .pointer (some ⟨w.heap.size + 1, 0, none⟩)], args := #[] }] } ((set6 W w.heap.size x).setCell ⟨w.heap.size + 1, 0, none⟩ (.bool true)) :=
  shut_good w W x tmps _ _ h2 h3 h.p h.q (by omega) (by omega) (by omega) h.b
theorem PB.bad {w W : World} (h : PB w W) (tmps : Array Value) (h2 : tmps.getD 2 undef = .pointer (some ⟨w.heap.size, 0, none⟩)) (h3 : tmps.getD 3 undef = .pointer (some ⟨w.heap.size + 1, 0, none⟩)) :
    bodyPostD Tryz.prog Tryz.f13 (fun e w' => e = Ending.returned (parV none) ∧ Below w.heap.size w w') (Exit.panic mal) { tmps := tmps, defers := [{ target := Target.fn (Fn.func 33) #[.pointer (some ⟨w.heap.size, 0, none⟩), .pointer (some ⟨w.heap.size + 1, 0, none⟩)], args := #[] }] } W :=
  shut_panic w W tmps _ _ h2 h3 h.p h.q (by omega) (by omega) (by omega) h.b
set_option maxRecDepth 100000 in
set_option maxHeartbeats 4000000 in
theorem parse_cut (s : ByteArray) (w : World) (he : Env w) (hs : (s.size : Int) ≤ 512) (hcut : cutL s.data.toList = none) : Calls Tryz.prog 13 #[.string s] w fun e w' => e = .returned (parV none) ∧ Below w.heap.size w w' := by
  have hmf : ∀ (fn : Fn) (first cap : Array Value) (w : World), (Instr.makeFunc fn first cap).run Tryz.prog w = .ok (.func fn first cap) w := fun _ _ _ _ => rfl
  have d5 : decide ((s.size : Int) ≤ 512) = true := decide_eq_true hs
  have HB := Lib.hid (PB.new he)
  have HF := Lib.hid (fun W => field_none s hcut W (by omega))
  clear hcut
  clear he hs
  go_enter_defers Tryz.func13, Tryz.ntmps13
  go_wp2_with (go_at_call 34; refine (demand_yes _).mono ?_; rintro e w1 ⟨rfl, rfl⟩)
  refine (HF.out _).mono ?_
  rintro e w2 ⟨rfl, hb2⟩
  have HB := Lib.hid (HB.out.keep hb2)
  clear hb2
  exact HB.out.bad _ rfl rfl
set_option maxRecDepth 100000 in
set_option maxHeartbeats 4000000 in
theorem parse_num (s : ByteArray) (w : World) (he : Env w) (hs : (s.size : Int) ≤ 512) (a r : List UInt8) (hcut : cutL s.data.toList = some (a, r)) (h0 : ¬ a = [48]) (h2 : ¬ a = [50]) (h4 : ¬ a = [52]) (h52 : ¬ a = [53, 50]) : Calls Tryz.prog 13 #[.string s] w fun e w' => e = .returned (parV none) ∧ Below w.heap.size w w' := by
  have hmf : ∀ (fn : Fn) (first cap : Array Value) (w : World), (Instr.makeFunc fn first cap).run Tryz.prog w = .ok (.func fn first cap) w := fun _ _ _ _ => rfl
  have d5 : decide ((s.size : Int) ≤ 512) = true := decide_eq_true hs
  have HB := Lib.hid (PB.new he)
  have HF := Lib.hid (fun W => field_some s a r hcut W (by omega))
  clear hcut
  have HN := Lib.hid (fun b g W h => look_no b g W h a h0 h2 h4 h52)
  clear h0 h2 h4 h52
  clear he hs
  go_enter_defers Tryz.func13, Tryz.ntmps13
  go_wp2_with (go_at_call 34; refine (demand_yes _).mono ?_; rintro e w1 ⟨rfl, rfl⟩)
  refine (HF.out _).mono ?_
  rintro e w2 ⟨rfl, hb2⟩
  have HB := Lib.hid (HB.out.keep hb2)
  clear hb2
  go_wp2_with (first
    | (go_at_call 36; refine (handlers_at _ _).mono ?_; rintro e w3 ⟨b, g, rfl, hbx, hmp, hb3⟩; obtain ⟨z, hl⟩ := HN.out b g _ hmp; have HB := Lib.hid (HB.out.keep hb3); clear hb3 hbx hmp)
    | (go_at_call 34; refine (demand_no _).mono ?_; rintro e w4 ⟨rfl, rfl⟩))
  exact HB.out.bad _ rfl rfl
set_option maxRecDepth 100000 in
set_option maxHeartbeats 4000000 in
theorem parse_t_no (s : ByteArray) (w : World) (he : Env w) (hs : (s.size : Int) ≤ 512) (a r : List UInt8) (hcut : cutL s.data.toList = some (a, r)) (j : Nat) (hk : ∀ b, Instr.findNow .string (.string ⟨a.toArray⟩) (entO b) 0 = some (some (j, fnv 64 b))) (hr : ∀ b W, Env W → B64.Box W b [.string ⟨r.toArray⟩] → Calls Tryz.prog 64 #[.pointer (some ⟨b, 0, none⟩)] W fun e w' => e = .panicked mal ∧ Below W.heap.size W w') : Calls Tryz.prog 13 #[.string s] w fun e w' => e = .returned (parV none) ∧ Below w.heap.size w w' := by
  have hmf : ∀ (fn : Fn) (first cap : Array Value) (w : World), (Instr.makeFunc fn first cap).run Tryz.prog w = .ok (.func fn first cap) w := fun _ _ _ _ => rfl
  have d5 : decide ((s.size : Int) ≤ 512) = true := decide_eq_true hs
  have HB := Lib.hid (PB.new he)
  have HF := Lib.hid (fun W => field_some s a r hcut W (by omega))
  clear hcut
  have HN := Lib.hid (fun b g W h => look_at b g W h a j _ (hk b))
  unfold fnv at HN
  clear hk
  have HR := Lib.hid hr
  clear hr
  clear he hs
  go_enter_defers Tryz.func13, Tryz.ntmps13
  go_wp2_with (go_at_call 34; refine (demand_yes _).mono ?_; rintro e w1 ⟨rfl, rfl⟩)
  refine (HF.out _).mono ?_
  rintro e w2 ⟨rfl, hb2⟩
  have HB := Lib.hid (HB.out.keep hb2)
  clear hb2
  go_wp2_with (first
    | (go_at_call 36; refine (handlers_at _ _).mono ?_; rintro e w3 ⟨b, g, rfl, hbx, hmp, hb3⟩; have hl := HN.out b g _ hmp; have HB := Lib.hid (HB.out.keep hb3); have HX := Lib.hid hbx; clear hb3 hbx hmp)
    | (go_at_call 34; refine (demand_yes _).mono ?_; rintro e w4 ⟨rfl, rfl⟩))
  refine (HR.out _ _ HB.out.e HX.out).mono ?_
  rintro e w5 ⟨rfl, hb5⟩
  exact (HB.out.keep hb5).bad _ rfl rfl
set_option maxRecDepth 100000 in
set_option maxHeartbeats 4000000 in
theorem parse_t_yes (s : ByteArray) (w : World) (he : Env w) (hs : (s.size : Int) ≤ 512) (a r : List UInt8) (hcut : cutL s.data.toList = some (a, r)) (j : Nat) (hk : ∀ b, Instr.findNow .string (.string ⟨a.toArray⟩) (entO b) 0 = some (some (j, fnv 64 b))) (x : A6) (hr : ∀ b W, Env W → B64.Box W b [.string ⟨r.toArray⟩] → Calls Tryz.prog 64 #[.pointer (some ⟨b, 0, none⟩)] W fun e w' => e = .returned (actV x) ∧ Below W.heap.size W w') : Calls Tryz.prog 13 #[.string s] w fun e w' => e = .returned (parV (some x)) ∧ Below w.heap.size w w' := by
  have hmf : ∀ (fn : Fn) (first cap : Array Value) (w : World), (Instr.makeFunc fn first cap).run Tryz.prog w = .ok (.func fn first cap) w := fun _ _ _ _ => rfl
  have d5 : decide ((s.size : Int) ≤ 512) = true := decide_eq_true hs
  have HB := Lib.hid (PB.new he)
  have HF := Lib.hid (fun W => field_some s a r hcut W (by omega))
  clear hcut
  have HN := Lib.hid (fun b g W h => look_at b g W h a j _ (hk b))
  unfold fnv at HN
  clear hk
  unfold actV at hr
  have HR := Lib.hid hr
  clear hr
  clear he hs
  go_enter_defers Tryz.func13, Tryz.ntmps13
  go_wp2_with (go_at_call 34; refine (demand_yes _).mono ?_; rintro e w1 ⟨rfl, rfl⟩)
  refine (HF.out _).mono ?_
  rintro e w2 ⟨rfl, hb2⟩
  have HB := Lib.hid (HB.out.keep hb2)
  clear hb2
  go_wp2_with (first
    | (go_at_call 36; refine (handlers_at _ _).mono ?_; rintro e w3 ⟨b, g, rfl, hbx, hmp, hb3⟩; have hl := HN.out b g _ hmp; have HB := Lib.hid (HB.out.keep hb3); have HX := Lib.hid hbx; clear hb3 hbx hmp)
    | (go_at_call 34; refine (demand_yes _).mono ?_; rintro e w4 ⟨rfl, rfl⟩))
  refine (HR.out _ _ HB.out.e HX.out).mono ?_
  rintro e w5 ⟨rfl, hb5⟩
  have HB := Lib.hid (HB.out.keep hb5)
  obtain ⟨⟨x0, x1, x2, x3, x4, x5⟩, f0, f1, f2, f3, f4, f5⟩ := boxz HB.out.p
  have z0 := HB.out.q.cell 0 _ rfl
  have g0 := HB.out.q.free 0 (by show 0 < 1; decide)
  clear hb5
  go_wp2
  exact HB.out.good x _ rfl rfl
set_option maxRecDepth 100000 in
set_option maxHeartbeats 4000000 in
theorem parse_p_no (s : ByteArray) (w : World) (he : Env w) (hs : (s.size : Int) ≤ 512) (a r : List UInt8) (hcut : cutL s.data.toList = some (a, r)) (j : Nat) (hk : ∀ b, Instr.findNow .string (.string ⟨a.toArray⟩) (entO b) 0 = some (some (j, fnv 65 b))) (hr : ∀ b W, Env W → B64.Box W b [.string ⟨r.toArray⟩] → Calls Tryz.prog 65 #[.pointer (some ⟨b, 0, none⟩)] W fun e w' => e = .panicked mal ∧ Below W.heap.size W w') : Calls Tryz.prog 13 #[.string s] w fun e w' => e = .returned (parV none) ∧ Below w.heap.size w w' := by
  have hmf : ∀ (fn : Fn) (first cap : Array Value) (w : World), (Instr.makeFunc fn first cap).run Tryz.prog w = .ok (.func fn first cap) w := fun _ _ _ _ => rfl
  have d5 : decide ((s.size : Int) ≤ 512) = true := decide_eq_true hs
  have HB := Lib.hid (PB.new he)
  have HF := Lib.hid (fun W => field_some s a r hcut W (by omega))
  clear hcut
  have HN := Lib.hid (fun b g W h => look_at b g W h a j _ (hk b))
  unfold fnv at HN
  clear hk
  have HR := Lib.hid hr
  clear hr
  clear he hs
  go_enter_defers Tryz.func13, Tryz.ntmps13
  go_wp2_with (go_at_call 34; refine (demand_yes _).mono ?_; rintro e w1 ⟨rfl, rfl⟩)
  refine (HF.out _).mono ?_
  rintro e w2 ⟨rfl, hb2⟩
  have HB := Lib.hid (HB.out.keep hb2)
  clear hb2
  go_wp2_with (first
    | (go_at_call 36; refine (handlers_at _ _).mono ?_; rintro e w3 ⟨b, g, rfl, hbx, hmp, hb3⟩; have hl := HN.out b g _ hmp; have HB := Lib.hid (HB.out.keep hb3); have HX := Lib.hid hbx; clear hb3 hbx hmp)
    | (go_at_call 34; refine (demand_yes _).mono ?_; rintro e w4 ⟨rfl, rfl⟩))
  refine (HR.out _ _ HB.out.e HX.out).mono ?_
  rintro e w5 ⟨rfl, hb5⟩
  exact (HB.out.keep hb5).bad _ rfl rfl
set_option maxRecDepth 100000 in
set_option maxHeartbeats 4000000 in
theorem parse_p_yes (s : ByteArray) (w : World) (he : Env w) (hs : (s.size : Int) ≤ 512) (a r : List UInt8) (hcut : cutL s.data.toList = some (a, r)) (j : Nat) (hk : ∀ b, Instr.findNow .string (.string ⟨a.toArray⟩) (entO b) 0 = some (some (j, fnv 65 b))) (x : A6) (hr : ∀ b W, Env W → B64.Box W b [.string ⟨r.toArray⟩] → Calls Tryz.prog 65 #[.pointer (some ⟨b, 0, none⟩)] W fun e w' => e = .returned (actV x) ∧ Below W.heap.size W w') : Calls Tryz.prog 13 #[.string s] w fun e w' => e = .returned (parV (some x)) ∧ Below w.heap.size w w' := by
  have hmf : ∀ (fn : Fn) (first cap : Array Value) (w : World), (Instr.makeFunc fn first cap).run Tryz.prog w = .ok (.func fn first cap) w := fun _ _ _ _ => rfl
  have d5 : decide ((s.size : Int) ≤ 512) = true := decide_eq_true hs
  have HB := Lib.hid (PB.new he)
  have HF := Lib.hid (fun W => field_some s a r hcut W (by omega))
  clear hcut
  have HN := Lib.hid (fun b g W h => look_at b g W h a j _ (hk b))
  unfold fnv at HN
  clear hk
  unfold actV at hr
  have HR := Lib.hid hr
  clear hr
  clear he hs
  go_enter_defers Tryz.func13, Tryz.ntmps13
  go_wp2_with (go_at_call 34; refine (demand_yes _).mono ?_; rintro e w1 ⟨rfl, rfl⟩)
  refine (HF.out _).mono ?_
  rintro e w2 ⟨rfl, hb2⟩
  have HB := Lib.hid (HB.out.keep hb2)
  clear hb2
  go_wp2_with (first
    | (go_at_call 36; refine (handlers_at _ _).mono ?_; rintro e w3 ⟨b, g, rfl, hbx, hmp, hb3⟩; have hl := HN.out b g _ hmp; have HB := Lib.hid (HB.out.keep hb3); have HX := Lib.hid hbx; clear hb3 hbx hmp)
    | (go_at_call 34; refine (demand_yes _).mono ?_; rintro e w4 ⟨rfl, rfl⟩))
  refine (HR.out _ _ HB.out.e HX.out).mono ?_
  rintro e w5 ⟨rfl, hb5⟩
  have HB := Lib.hid (HB.out.keep hb5)
  obtain ⟨⟨x0, x1, x2, x3, x4, x5⟩, f0, f1, f2, f3, f4, f5⟩ := boxz HB.out.p
  have z0 := HB.out.q.cell 0 _ rfl
  have g0 := HB.out.q.free 0 (by show 0 < 1; decide)
  clear hb5
  go_wp2
  exact HB.out.good x _ rfl rfl
set_option maxRecDepth 100000 in
set_option maxHeartbeats 4000000 in
theorem parse_c_no (s : ByteArray) (w : World) (he : Env w) (hs : (s.size : Int) ≤ 512) (a r : List UInt8) (hcut : cutL s.data.toList = some (a, r)) (j : Nat) (hk : ∀ b, Instr.findNow .string (.string ⟨a.toArray⟩) (entO b) 0 = some (some (j, fnv 68 b))) (hr : ∀ b W, Env W → B64.Box W b [.string ⟨r.toArray⟩] → Calls Tryz.prog 68 #[.pointer (some ⟨b, 0, none⟩)] W fun e w' => e = .panicked mal ∧ Below W.heap.size W w') : Calls Tryz.prog 13 #[.string s] w fun e w' => e = .returned (parV none) ∧ Below w.heap.size w w' := by
  have hmf : ∀ (fn : Fn) (first cap : Array Value) (w : World), (Instr.makeFunc fn first cap).run Tryz.prog w = .ok (.func fn first cap) w := fun _ _ _ _ => rfl
  have d5 : decide ((s.size : Int) ≤ 512) = true := decide_eq_true hs
  have HB := Lib.hid (PB.new he)
  have HF := Lib.hid (fun W => field_some s a r hcut W (by omega))
  clear hcut
  have HN := Lib.hid (fun b g W h => look_at b g W h a j _ (hk b))
  unfold fnv at HN
  clear hk
  have HR := Lib.hid hr
  clear hr
  clear he hs
  go_enter_defers Tryz.func13, Tryz.ntmps13
  go_wp2_with (go_at_call 34; refine (demand_yes _).mono ?_; rintro e w1 ⟨rfl, rfl⟩)
  refine (HF.out _).mono ?_
  rintro e w2 ⟨rfl, hb2⟩
  have HB := Lib.hid (HB.out.keep hb2)
  clear hb2
  go_wp2_with (first
    | (go_at_call 36; refine (handlers_at _ _).mono ?_; rintro e w3 ⟨b, g, rfl, hbx, hmp, hb3⟩; have hl := HN.out b g _ hmp; have HB := Lib.hid (HB.out.keep hb3); have HX := Lib.hid hbx; clear hb3 hbx hmp)
    | (go_at_call 34; refine (demand_yes _).mono ?_; rintro e w4 ⟨rfl, rfl⟩))
  refine (HR.out _ _ HB.out.e HX.out).mono ?_
  rintro e w5 ⟨rfl, hb5⟩
  exact (HB.out.keep hb5).bad _ rfl rfl
set_option maxRecDepth 100000 in
set_option maxHeartbeats 4000000 in
theorem parse_c_yes (s : ByteArray) (w : World) (he : Env w) (hs : (s.size : Int) ≤ 512) (a r : List UInt8) (hcut : cutL s.data.toList = some (a, r)) (j : Nat) (hk : ∀ b, Instr.findNow .string (.string ⟨a.toArray⟩) (entO b) 0 = some (some (j, fnv 68 b))) (x : A6) (hr : ∀ b W, Env W → B64.Box W b [.string ⟨r.toArray⟩] → Calls Tryz.prog 68 #[.pointer (some ⟨b, 0, none⟩)] W fun e w' => e = .returned (actV x) ∧ Below W.heap.size W w') : Calls Tryz.prog 13 #[.string s] w fun e w' => e = .returned (parV (some x)) ∧ Below w.heap.size w w' := by
  have hmf : ∀ (fn : Fn) (first cap : Array Value) (w : World), (Instr.makeFunc fn first cap).run Tryz.prog w = .ok (.func fn first cap) w := fun _ _ _ _ => rfl
  have d5 : decide ((s.size : Int) ≤ 512) = true := decide_eq_true hs
  have HB := Lib.hid (PB.new he)
  have HF := Lib.hid (fun W => field_some s a r hcut W (by omega))
  clear hcut
  have HN := Lib.hid (fun b g W h => look_at b g W h a j _ (hk b))
  unfold fnv at HN
  clear hk
  unfold actV at hr
  have HR := Lib.hid hr
  clear hr
  clear he hs
  go_enter_defers Tryz.func13, Tryz.ntmps13
  go_wp2_with (go_at_call 34; refine (demand_yes _).mono ?_; rintro e w1 ⟨rfl, rfl⟩)
  refine (HF.out _).mono ?_
  rintro e w2 ⟨rfl, hb2⟩
  have HB := Lib.hid (HB.out.keep hb2)
  clear hb2
  go_wp2_with (first
    | (go_at_call 36; refine (handlers_at _ _).mono ?_; rintro e w3 ⟨b, g, rfl, hbx, hmp, hb3⟩; have hl := HN.out b g _ hmp; have HB := Lib.hid (HB.out.keep hb3); have HX := Lib.hid hbx; clear hb3 hbx hmp)
    | (go_at_call 34; refine (demand_yes _).mono ?_; rintro e w4 ⟨rfl, rfl⟩))
  refine (HR.out _ _ HB.out.e HX.out).mono ?_
  rintro e w5 ⟨rfl, hb5⟩
  have HB := Lib.hid (HB.out.keep hb5)
  obtain ⟨⟨x0, x1, x2, x3, x4, x5⟩, f0, f1, f2, f3, f4, f5⟩ := boxz HB.out.p
  have z0 := HB.out.q.cell 0 _ rfl
  have g0 := HB.out.q.free 0 (by show 0 < 1; decide)
  clear hb5
  go_wp2
  exact HB.out.good x _ rfl rfl
theorem parse_any (s : ByteArray) (w : World) (he : Env w) : Calls Tryz.prog 13 #[.string s] w fun e w' => e = .returned (parV (parO s.data.toList)) ∧ Below w.heap.size w w' := by
  have hlen : s.data.toList.length = s.size := by simp
  unfold parO
  by_cases h5 : 512 < s.data.toList.length
  · rw [if_pos h5]
    exact parse_long s w (by omega)
  · rw [if_neg h5]
    have hs : (s.size : Int) ≤ 512 := by omega
    cases hc : cutL s.data.toList with
    | none => exact parse_cut s w he hs hc
    | some p =>
      obtain ⟨a, r⟩ := p
      obtain ⟨ha, hr⟩ := cut_len _ a r hc
      rw [Option.bind_some]
      dsimp only
      by_cases h02 : a = [48] ∨ a = [50]
      · rw [if_pos h02]
        have hk : ∃ j, ∀ b, Instr.findNow .string (.string ⟨a.toArray⟩) (entO b) 0 = some (some (j, fnv 64 b)) := by
          rcases h02 with rfl | rfl
          · exact ⟨0, find_0⟩
          · exact ⟨1, find_2⟩
        obtain ⟨j, hk⟩ := hk
        unfold parT
        cases ht : titB r with
        | true =>
          rw [if_pos rfl]
          exact parse_t_yes s w he hs a r hc j hk _ fun b W h1 h2 => title_yes b r W h1 h2 (by omega) ht
        | false =>
          rw [if_neg (by decide)]
          exact parse_t_no s w he hs a r hc j hk fun b W h1 h2 => title_no b r W h1 h2 (by omega) ht
      · rw [if_neg h02]
        by_cases h4 : a = [52]
        · rw [if_pos h4]
          subst h4
          unfold parP
          cases hc2 : cutL r with
          | none => exact parse_p_no s w he hs [52] r hc 2 find_4 fun b W h1 h2 => palette_cut b r W h1 h2 (by omega) hc2
          | some p2 =>
            obtain ⟨a2, c⟩ := p2
            obtain ⟨ha2, hc3⟩ := cut_len _ a2 c hc2
            rw [Option.bind_some]
            dsimp only
            cases hp : parseL c with
            | none =>
              have : ((num3 a2).bind fun n => (none : Option Nat).bind fun x => some (⟨45, n, 0, 2, x, []⟩ : A6)) = none := by cases num3 a2 <;> rfl
              rw [this]
              exact parse_p_no s w he hs [52] r hc 2 find_4 fun b W h1 h2 => palette_col b r W h1 h2 (by omega) a2 c hc2 hp
            | some x =>
              cases hn : num3 a2 with
              | none => exact parse_p_no s w he hs [52] r hc 2 find_4 fun b W h1 h2 => palette_num b r W h1 h2 (by omega) a2 c hc2 x (by omega) hp hn
              | some n => exact parse_p_yes s w he hs [52] r hc 2 find_4 _ fun b W h1 h2 => palette_yes b r W h1 h2 (by omega) a2 c hc2 x n (by omega) hp hn
        · rw [if_neg h4]
          by_cases h52 : a = [53, 50]
          · rw [if_pos h52]
            subst h52
            unfold parC
            cases hc2 : cutL r with
            | none => exact parse_c_no s w he hs [53, 50] r hc 3 find_52 fun b W h1 h2 => clip_cut b r W h1 h2 (by omega) hc2
            | some p2 =>
              obtain ⟨a2, c⟩ := p2
              obtain ⟨ha2, hc3⟩ := cut_len _ a2 c hc2
              rw [Option.bind_some]
              dsimp only
              by_cases h99 : a2 = [99]
              · rw [if_pos h99]
                subst h99
                cases hd : B64.decL c with
                | none => exact parse_c_no s w he hs [53, 50] r hc 3 find_52 fun b W h1 h2 => clip_dec b r W h1 h2 (by omega) c hc2 (by omega) hd
                | some x =>
                  rw [Option.bind_some]
                  by_cases hx : x.length ≤ 378
                  · rw [if_pos hx]
                    exact parse_c_yes s w he hs [53, 50] r hc 3 find_52 _ fun b W h1 h2 => clip_yes b r W h1 h2 (by omega) c x hc2 (by omega) hd hx
                  · rw [if_neg hx]
                    exact parse_c_no s w he hs [53, 50] r hc 3 find_52 fun b W h1 h2 => clip_len b r W h1 h2 (by omega) c x hc2 (by omega) hd hx
              · rw [if_neg h99]
                exact parse_c_no s w he hs [53, 50] r hc 3 find_52 fun b W h1 h2 => clip_sel b r W h1 h2 (by omega) a2 c hc2 h99
          · rw [if_neg h52]
            exact parse_num s w he hs a r hc (fun h => h02 (.inl h)) (fun h => h02 (.inr h)) h4 h52
end Go.Proofs.YtoilcigmpeaedaaGreatDoor.Osc
