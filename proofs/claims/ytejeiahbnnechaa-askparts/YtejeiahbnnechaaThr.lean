import Derived.Test.YtejeiahbnnechaaClu
import Derived.Test.YtejeiahbnnechaaQst
import Derived.Defers
import Derived.Recover
namespace Go.Proofs.Ytejeiahbnnechaa
open Go.RowKit Go.Proofs.Ytejeiahbnnechaa.Ds

/-- what is thrown -/
def chn (e : Int) : List PanicEntry := [{ v := .iface 70 (.agg #[.int .i64 e]), recovered := false }]

theorem must_ok (e : Int) (w : World) : Calls Try.prog 29 #[.bool true, .int .i64 e] w fun x w' => x = .returned (.tuple #[]) ∧ w' = w := by
  go_enter Try.func29, Try.ntmps29
  go_wp2
  go_end0
  exact ⟨rfl, rfl⟩
theorem must_no (e : Int) (w : World) : Calls Try.prog 29 #[.bool false, .int .i64 e] w fun x w' => x = .panicked (chn e) ∧ w' = w := by
  go_enter Try.func29, Try.ntmps29
  go_wp2
  exact ⟨rfl, rfl, rfl⟩
theorem check_ok (w : World) : Calls Try.prog 33 #[.int .i64 0] w fun x w' => x = .returned (.tuple #[]) ∧ w' = w := by
  go_enter Try.func33, Try.ntmps33
  go_wp2_with fail
  refine (must_ok 0 w).mono ?_
  rintro e w1 ⟨rfl, rfl⟩
  go_wp2
  go_end0
  exact ⟨rfl, rfl⟩
theorem check_no (e : Int) (he : e ≠ 0) (w : World) : Calls Try.prog 33 #[.int .i64 e] w fun x w' => x = .panicked (chn e) ∧ w' = w := by
  have hq : (e == 0) = false := by simpa using he
  go_enter Try.func33, Try.ntmps33
  go_wp2_with fail
  refine (must_no e w).mono ?_
  rintro x w1 ⟨rfl, rfl⟩
  go_wp2
  exact ⟨rfl, rfl, rfl⟩

theorem assert70 (v : Value) (w : World) : (Instr.typeAssert (.iface 70 v) 20 70 true).run Try.prog w = .ok (.tuple #[v, .bool true]) w := by
  simp [Instr.typeAssert, run_underlying Try.underlying70]
theorem eqnil70 (v : Value) (w : World) : (binOp .eql 20 (.iface 70 v) .nilIface).run Try.prog w = .ok (.bool false) w := by
  have h : ∀ d : Nat, (Op.equalIn (d + 1) 20 (.iface 70 v) .nilIface).run Try.prog w = .ok false w := fun d => by simp [Op.equalIn, run_underlying Try.underlying20]
  simp only [binOp]
  simp [Op.equal, Op.maxDepth, h 9999]
theorem hmf : ∀ (fn : Fn) (first cap : Array Value) (w : World), (Instr.makeFunc fn first cap).run Try.prog w = .ok (.func fn first cap) w := fun _ _ _ _ => rfl
/-- a cell of one's own -/
structure Cl (w : World) (b k : Nat) (v : Value) : Prop where
  c : w.cell? ⟨b, k, none⟩ = some v
  f : w.frozen? ⟨b, k, none⟩ = false
  lt : b < w.heap.size
theorem Cl.at {w w' : World} {b k : Nat} {v : Value} (h : Cl w b k v) (hb : Below w.heap.size w w') : Cl w' b k v :=
  ⟨(hb.cell (p := ⟨b, k, none⟩) h.lt).trans h.c, (hb.frozen (p := ⟨b, k, none⟩) h.lt).trans h.f, Nat.lt_of_lt_of_le h.lt hb.size⟩
theorem Cl.new {w : World} {N : Nat} (cs : Array Value) (t : TypeId) (k : Nat) (x : Value) (hN : N = w.heap.size) (hx : cs[k]? = some x) : Cl (w.alloc (.cells cs t)) N k x :=
  ⟨nc cs t k x hN hx, nf cs t k hN, by subst hN; simp⟩
theorem Cl.set {w : World} {b k : Nat} {v : Value} (h : Cl w b k v) (u : Value) : Cl (w.setCell ⟨b, k, none⟩ u) b k u :=
  ⟨sc_same h.c, sc_frozen.trans h.f, by simpa using h.lt⟩
theorem Cl.oth {w : World} {b k b' k' : Nat} {v : Value} (h : Cl w b k v) (hne : b' ≠ b ∨ k' ≠ k) (u : Value) : Cl (w.setCell ⟨b', k', none⟩ u) b k v :=
  ⟨(sc_other (by intro e; simp only [Addr.mk.injEq] at e; omega)).trans h.c, sc_frozen.trans h.f, by simpa using h.lt⟩
abbrev bndV (b : Bnd) : Value := .agg #[.int .i64 b.1, .int .i64 b.2.1, .int .i64 b.2.2]

/-- what is caught: deferred, of a frame that throws, of one that returns -/
theorem catchB_no (p : Nat) (x : Value) (e : Int) (w : World) (hc : Cl w p 0 x) :
    CallsD Try.prog 42 #[.pointer (some ⟨p, 0, none⟩)] (.panicking (chn e)) w fun r u' w' =>
      r = .returned (.tuple #[]) ∧ u' = .panicking [{ v := .iface 70 (.agg #[.int .i64 e]), recovered := true }] ∧ w' = (w.alloc (.cells #[.int .i64 e] 70)).setCell ⟨p, 0, none⟩ (.int .i64 e) := by
  refine callsD_of_wpS Try.func42 rfl fun c₀ cs hu => ?_
  apply wpS_seq
  apply wpS_region
  simp [wpOpsS, go_sem, recoverD, hu, chn, Try.ntmps42, Exit.thenS]
  refine wpS_of_wp ?_
  change Code.wp Try.prog _ _ { tmps := #[.pointer (some ⟨p, 0, none⟩), undef, undef, undef, .iface 70 (.agg #[.int .i64 e]), undef, undef, undef, undef, undef, undef, undef], defers := [] } w
  have ha := assert70
  have hq := eqnil70
  have hz2 := (hc.at (ba w (.cells #[.int .i64 e] 70))).f
  have hz3 := (hc.at (ba w (.cells #[.int .i64 e] 70))).c
  go_wp2
  exact ⟨rfl, _, rfl, _, results_none rfl _ _ _, rfl, rfl, rfl⟩
theorem catchB_ok (p : Addr) (w : World) :
    CallsD Try.prog 42 #[.pointer (some p)] .returning w fun r u' w' => r = .returned (.tuple #[]) ∧ u' = .returning ∧ w' = w := by
  refine callsD_of_wpS Try.func42 rfl fun c₀ cs hu => ?_
  apply wpS_seq
  apply wpS_region
  simp [wpOpsS, go_sem, recoverD, hu, Try.ntmps42, Exit.thenS]
  refine wpS_of_wp ?_
  change Code.wp Try.prog _ _ { tmps := #[.pointer (some p), undef, undef, undef, .nilIface, undef, undef, undef, undef, undef, undef, undef], defers := [] } w
  go_wp2
  exact ⟨rfl, .returning, by rw [← hu], _, results_none rfl _ _ _, rfl, rfl, rfl⟩

theorem caughtB_ok (caps : Array Value) (b1 b2 b3 : Int) (w : World) (kc : ∀ W, Below w.heap.size w W → w.heap.size + 2 ≤ W.heap.size → Calls Try.prog 21 caps W fun x w' => x = .returned (.agg #[.int .i64 b1, .int .i64 b2, .int .i64 b3]) ∧ Below W.heap.size W w') :
    Calls Try.prog 20 #[.func (.func 21) #[] caps] w fun e w' => e = .returned (.tuple #[.agg #[.int .i64 b1, .int .i64 b2, .int .i64 b3], .int .i64 0]) ∧ Below w.heap.size w w' := by
  have hmf := hmf
  go_enter_defers Try.func20, Try.ntmps20
  have k1 := kc ((w.alloc (.cells #[.int .i64 0, .int .i64 0, .int .i64 0] 28)).alloc (.cells #[.int .i64 0] 29)) (bal (ba _ _) _) (by simp)
  go_wp2_with fail
  refine k1.mono ?_
  rintro e w1 ⟨rfl, hb1⟩
  have a0 := ((Cl.new (w := w) #[.int .i64 0, .int .i64 0, .int .i64 0] 28 0 _ rfl rfl).at (ba _ (.cells #[.int .i64 0] 29))).at hb1
  have a1 := ((Cl.new (w := w) #[.int .i64 0, .int .i64 0, .int .i64 0] 28 1 _ rfl rfl).at (ba _ (.cells #[.int .i64 0] 29))).at hb1
  have a2 := ((Cl.new (w := w) #[.int .i64 0, .int .i64 0, .int .i64 0] 28 2 _ rfl rfl).at (ba _ (.cells #[.int .i64 0] 29))).at hb1
  have a3 := (Cl.new (w := w.alloc (.cells #[.int .i64 0, .int .i64 0, .int .i64 0] 28)) (N := w.heap.size + 1) #[.int .i64 0] 29 0 _ (by simp) rfl).at hb1
  have hbw : Below w.heap.size w w1 := bt (bal (ba _ _) _) hb1
  have t0 := a0.c
  have s0 := a0.f
  have t1 := a1.c
  have s1 := a1.f
  have t2 := a2.c
  have s2 := a2.f
  have t3 := a3.c
  have s3 := a3.f
  clear hb1 k1 kc
  go_wp2
  refine leaves_cons (f := 42) (args := #[.pointer (some ⟨w.heap.size + 1, 0, none⟩)]) (by simp) (by simp [go_sem]) ?_
  refine (catchB_ok _ _).mono ?_
  rintro e u' w'' ⟨rfl, rfl, rfl⟩
  have hbz : Below w.heap.size w ((((w1.setCell ⟨w.heap.size, 0, none⟩ (.int .i64 b1)).setCell ⟨w.heap.size, 1, none⟩ (.int .i64 b2)).setCell ⟨w.heap.size, 2, none⟩ (.int .i64 b3)).setCell ⟨w.heap.size + 1, 0, none⟩ (.int .i64 0)) := bs (bs (bs (bs hbw (Nat.le_refl _) _) (Nat.le_refl _) _) (Nat.le_refl _) _) (Nat.le_succ _) _
  simp [Leaves, settle, results, Try.results20, go_sem, t0, t1, t2, t3]
  exact hbz
theorem caughtB_no (caps : Array Value) (er : Int) (w : World) (kc : ∀ W, Below w.heap.size w W → w.heap.size + 2 ≤ W.heap.size → Calls Try.prog 21 caps W fun x w' => x = .panicked (chn er) ∧ Below W.heap.size W w') :
    Calls Try.prog 20 #[.func (.func 21) #[] caps] w fun e w' => e = .returned (.tuple #[.agg #[.int .i64 0, .int .i64 0, .int .i64 0], .int .i64 er]) ∧ Below w.heap.size w w' := by
  have hmf := hmf
  go_enter_defers Try.func20, Try.ntmps20
  have k1 := kc ((w.alloc (.cells #[.int .i64 0, .int .i64 0, .int .i64 0] 28)).alloc (.cells #[.int .i64 0] 29)) (bal (ba _ _) _) (by simp)
  go_wp2_with fail
  refine k1.mono ?_
  rintro e w1 ⟨rfl, hb1⟩
  have a0 := ((Cl.new (w := w) #[.int .i64 0, .int .i64 0, .int .i64 0] 28 0 _ rfl rfl).at (ba _ (.cells #[.int .i64 0] 29))).at hb1
  have a1 := ((Cl.new (w := w) #[.int .i64 0, .int .i64 0, .int .i64 0] 28 1 _ rfl rfl).at (ba _ (.cells #[.int .i64 0] 29))).at hb1
  have a2 := ((Cl.new (w := w) #[.int .i64 0, .int .i64 0, .int .i64 0] 28 2 _ rfl rfl).at (ba _ (.cells #[.int .i64 0] 29))).at hb1
  have a3 := (Cl.new (w := w.alloc (.cells #[.int .i64 0, .int .i64 0, .int .i64 0] 28)) (N := w.heap.size + 1) #[.int .i64 0] 29 0 _ (by simp) rfl).at hb1
  have hbw : Below w.heap.size w w1 := bt (bal (ba _ _) _) hb1
  have t0 := a0.c
  have s0 := a0.f
  have t1 := a1.c
  have s1 := a1.f
  have t2 := a2.c
  have s2 := a2.f
  have t3 := a3.c
  have s3 := a3.f
  clear hb1 k1 kc
  go_wp2
  refine leaves_cons (f := 42) (args := #[.pointer (some ⟨w.heap.size + 1, 0, none⟩)]) (by simp) (by simp [go_sem]) ?_
  refine (catchB_no _ _ _ _ a3).mono ?_
  rintro e u' w'' ⟨rfl, rfl, rfl⟩
  have hbz : Below w.heap.size w ((w1.alloc (.cells #[.int .i64 er] 70)).setCell ⟨w.heap.size + 1, 0, none⟩ (.int .i64 er)) := bs (bal hbw _) (Nat.le_succ _) _
  have r0 := (a0.at (ba _ (.cells #[.int .i64 er] 70))).c
  have r1 := (a1.at (ba _ (.cells #[.int .i64 er] 70))).c
  have r2 := (a2.at (ba _ (.cells #[.int .i64 er] 70))).c
  have r3 := (a3.at (ba _ (.cells #[.int .i64 er] 70))).c
  simp [Leaves, settle, results, Try.results20, go_sem, r0, r1, r2, r3]
  exact hbz
/-- what is caught: deferred, of a frame that throws, of one that returns -/
theorem catchI_no (p : Nat) (x : Value) (e : Int) (w : World) (hc : Cl w p 0 x) :
    CallsD Try.prog 47 #[.pointer (some ⟨p, 0, none⟩)] (.panicking (chn e)) w fun r u' w' =>
      r = .returned (.tuple #[]) ∧ u' = .panicking [{ v := .iface 70 (.agg #[.int .i64 e]), recovered := true }] ∧ w' = (w.alloc (.cells #[.int .i64 e] 70)).setCell ⟨p, 0, none⟩ (.int .i64 e) := by
  refine callsD_of_wpS Try.func47 rfl fun c₀ cs hu => ?_
  apply wpS_seq
  apply wpS_region
  simp [wpOpsS, go_sem, recoverD, hu, chn, Try.ntmps47, Exit.thenS]
  refine wpS_of_wp ?_
  change Code.wp Try.prog _ _ { tmps := #[.pointer (some ⟨p, 0, none⟩), undef, undef, undef, .iface 70 (.agg #[.int .i64 e]), undef, undef, undef, undef, undef, undef, undef], defers := [] } w
  have ha := assert70
  have hq := eqnil70
  have hz2 := (hc.at (ba w (.cells #[.int .i64 e] 70))).f
  have hz3 := (hc.at (ba w (.cells #[.int .i64 e] 70))).c
  go_wp2
  exact ⟨rfl, _, rfl, _, results_none rfl _ _ _, rfl, rfl, rfl⟩
theorem catchI_ok (p : Addr) (w : World) :
    CallsD Try.prog 47 #[.pointer (some p)] .returning w fun r u' w' => r = .returned (.tuple #[]) ∧ u' = .returning ∧ w' = w := by
  refine callsD_of_wpS Try.func47 rfl fun c₀ cs hu => ?_
  apply wpS_seq
  apply wpS_region
  simp [wpOpsS, go_sem, recoverD, hu, Try.ntmps47, Exit.thenS]
  refine wpS_of_wp ?_
  change Code.wp Try.prog _ _ { tmps := #[.pointer (some p), undef, undef, undef, .nilIface, undef, undef, undef, undef, undef, undef, undef], defers := [] } w
  go_wp2
  exact ⟨rfl, .returning, by rw [← hu], _, results_none rfl _ _ _, rfl, rfl, rfl⟩

theorem caughtI_ok (caps : Array Value) (Q : Value → World → Prop) (w : World) (kc : ∀ W, Below w.heap.size w W → w.heap.size + 1 ≤ W.heap.size → Calls Try.prog 26 caps W fun x w' => ∃ V, x = .returned V ∧ Q V w' ∧ Below W.heap.size W w') :
    Calls Try.prog 25 #[.func (.func 26) #[] caps] w fun e w' => ∃ V w1, e = .returned (.tuple #[V, .int .i64 0]) ∧ Q V w1 ∧ Below w.heap.size w w1 ∧ w' = w1.setCell ⟨w.heap.size, 0, none⟩ (.int .i64 0) := by
  have hmf := hmf
  go_enter_defers Try.func25, Try.ntmps25
  have k1 := kc (w.alloc (.cells #[.int .i64 0] 29)) (ba _ _) (by simp)
  go_wp2_with fail
  refine k1.mono ?_
  rintro e w1 ⟨V, rfl, hQ, hb1⟩
  have a0 := (Cl.new (w := w) #[.int .i64 0] 29 0 _ rfl rfl).at hb1
  have hbw : Below w.heap.size w w1 := bt (ba _ _) hb1
  have t0 := a0.c
  have s0 := a0.f
  clear hb1 k1 kc
  go_wp2
  refine leaves_cons (f := 47) (args := #[.pointer (some ⟨w.heap.size, 0, none⟩)]) (by simp) (by simp [go_sem]) ?_
  refine (catchI_ok _ _).mono ?_
  rintro e u' w'' ⟨rfl, rfl, rfl⟩
  simp [Leaves, settle, results, Try.results25, go_sem, t0]
  exact ⟨_, hQ, hbw, rfl⟩
theorem caughtI_no (caps : Array Value) (er : Int) (w : World) (kc : ∀ W, Below w.heap.size w W → w.heap.size + 1 ≤ W.heap.size → Calls Try.prog 26 caps W fun x w' => x = .panicked (chn er) ∧ Below W.heap.size W w') :
    Calls Try.prog 25 #[.func (.func 26) #[] caps] w fun e w' => e = .returned (.tuple #[.int .i64 0, .int .i64 er]) ∧ Below w.heap.size w w' := by
  have hmf := hmf
  go_enter_defers Try.func25, Try.ntmps25
  have k1 := kc (w.alloc (.cells #[.int .i64 0] 29)) (ba _ _) (by simp)
  go_wp2_with fail
  refine k1.mono ?_
  rintro e w1 ⟨rfl, hb1⟩
  have a0 := (Cl.new (w := w) #[.int .i64 0] 29 0 _ rfl rfl).at hb1
  have hbw : Below w.heap.size w w1 := bt (ba _ _) hb1
  have t0 := a0.c
  have s0 := a0.f
  clear hb1 k1 kc
  go_wp2
  refine leaves_cons (f := 47) (args := #[.pointer (some ⟨w.heap.size, 0, none⟩)]) (by simp) (by simp [go_sem]) ?_
  refine (catchI_no _ _ _ _ a0).mono ?_
  rintro e u' w'' ⟨rfl, rfl, rfl⟩
  have hbz : Below w.heap.size w ((w1.alloc (.cells #[.int .i64 er] 70)).setCell ⟨w.heap.size, 0, none⟩ (.int .i64 er)) := bs (bal hbw _) (Nat.le_refl _) _
  have r0 := (a0.at (ba _ (.cells #[.int .i64 er] 70))).c
  simp [Leaves, settle, results, Try.results25, go_sem, r0]
  exact hbz
/-- what is caught: deferred, of a frame that throws, of one that returns -/
theorem catchL_no (p : Nat) (x : Value) (e : Int) (w : World) (hc : Cl w p 0 x) :
    CallsD Try.prog 52 #[.pointer (some ⟨p, 0, none⟩)] (.panicking (chn e)) w fun r u' w' =>
      r = .returned (.tuple #[]) ∧ u' = .panicking [{ v := .iface 70 (.agg #[.int .i64 e]), recovered := true }] ∧ w' = (w.alloc (.cells #[.int .i64 e] 70)).setCell ⟨p, 0, none⟩ (.int .i64 e) := by
  refine callsD_of_wpS Try.func52 rfl fun c₀ cs hu => ?_
  apply wpS_seq
  apply wpS_region
  simp [wpOpsS, go_sem, recoverD, hu, chn, Try.ntmps52, Exit.thenS]
  refine wpS_of_wp ?_
  change Code.wp Try.prog _ _ { tmps := #[.pointer (some ⟨p, 0, none⟩), undef, undef, undef, .iface 70 (.agg #[.int .i64 e]), undef, undef, undef, undef, undef, undef, undef], defers := [] } w
  have ha := assert70
  have hq := eqnil70
  have hz2 := (hc.at (ba w (.cells #[.int .i64 e] 70))).f
  have hz3 := (hc.at (ba w (.cells #[.int .i64 e] 70))).c
  go_wp2
  exact ⟨rfl, _, rfl, _, results_none rfl _ _ _, rfl, rfl, rfl⟩
theorem catchL_ok (p : Addr) (w : World) :
    CallsD Try.prog 52 #[.pointer (some p)] .returning w fun r u' w' => r = .returned (.tuple #[]) ∧ u' = .returning ∧ w' = w := by
  refine callsD_of_wpS Try.func52 rfl fun c₀ cs hu => ?_
  apply wpS_seq
  apply wpS_region
  simp [wpOpsS, go_sem, recoverD, hu, Try.ntmps52, Exit.thenS]
  refine wpS_of_wp ?_
  change Code.wp Try.prog _ _ { tmps := #[.pointer (some p), undef, undef, undef, .nilIface, undef, undef, undef, undef, undef, undef, undef], defers := [] } w
  go_wp2
  exact ⟨rfl, .returning, by rw [← hu], _, results_none rfl _ _ _, rfl, rfl, rfl⟩

theorem caughtL_ok (caps : Array Value) (Q : Value → World → Prop) (w : World) (kc : ∀ W, Below w.heap.size w W → w.heap.size + 1 ≤ W.heap.size → Calls Try.prog 32 caps W fun x w' => ∃ V, x = .returned V ∧ Q V w' ∧ Below W.heap.size W w') :
    Calls Try.prog 31 #[.func (.func 32) #[] caps] w fun e w' => ∃ V w1, e = .returned (.tuple #[V, .int .i64 0]) ∧ Q V w1 ∧ Below w.heap.size w w1 ∧ w' = w1.setCell ⟨w.heap.size, 0, none⟩ (.int .i64 0) := by
  have hmf := hmf
  go_enter_defers Try.func31, Try.ntmps31
  have k1 := kc (w.alloc (.cells #[.int .i64 0] 29)) (ba _ _) (by simp)
  go_wp2_with fail
  refine k1.mono ?_
  rintro e w1 ⟨V, rfl, hQ, hb1⟩
  have a0 := (Cl.new (w := w) #[.int .i64 0] 29 0 _ rfl rfl).at hb1
  have hbw : Below w.heap.size w w1 := bt (ba _ _) hb1
  have t0 := a0.c
  have s0 := a0.f
  clear hb1 k1 kc
  go_wp2
  refine leaves_cons (f := 52) (args := #[.pointer (some ⟨w.heap.size, 0, none⟩)]) (by simp) (by simp [go_sem]) ?_
  refine (catchL_ok _ _).mono ?_
  rintro e u' w'' ⟨rfl, rfl, rfl⟩
  simp [Leaves, settle, results, Try.results31, go_sem, t0]
  exact ⟨_, hQ, hbw, rfl⟩
theorem caughtL_no (caps : Array Value) (er : Int) (w : World) (kc : ∀ W, Below w.heap.size w W → w.heap.size + 1 ≤ W.heap.size → Calls Try.prog 32 caps W fun x w' => x = .panicked (chn er) ∧ Below W.heap.size W w') :
    Calls Try.prog 31 #[.func (.func 32) #[] caps] w fun e w' => e = .returned (.tuple #[.slice none 0 0, .int .i64 er]) ∧ Below w.heap.size w w' := by
  have hmf := hmf
  go_enter_defers Try.func31, Try.ntmps31
  have k1 := kc (w.alloc (.cells #[.int .i64 0] 29)) (ba _ _) (by simp)
  go_wp2_with fail
  refine k1.mono ?_
  rintro e w1 ⟨rfl, hb1⟩
  have a0 := (Cl.new (w := w) #[.int .i64 0] 29 0 _ rfl rfl).at hb1
  have hbw : Below w.heap.size w w1 := bt (ba _ _) hb1
  have t0 := a0.c
  have s0 := a0.f
  clear hb1 k1 kc
  go_wp2
  refine leaves_cons (f := 52) (args := #[.pointer (some ⟨w.heap.size, 0, none⟩)]) (by simp) (by simp [go_sem]) ?_
  refine (catchL_no _ _ _ _ a0).mono ?_
  rintro e u' w'' ⟨rfl, rfl, rfl⟩
  have hbz : Below w.heap.size w ((w1.alloc (.cells #[.int .i64 er] 70)).setCell ⟨w.heap.size, 0, none⟩ (.int .i64 er)) := bs (bal hbw _) (Nat.le_refl _) _
  have r0 := (a0.at (ba _ (.cells #[.int .i64 er] 70))).c
  simp [Leaves, settle, results, Try.results31, go_sem, r0]
  exact hbz
end Go.Proofs.Ytejeiahbnnechaa
