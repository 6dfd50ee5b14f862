import Derived.Test.YtidfkencjdjkbaaDoorQu39
/-
  PACKAGE speech: Print, whole.
-/
namespace Go.Proofs.YtidfkencjdjkbaaDoor
open Go.RowKit Sp

theorem catchS_no (p : Nat) (x y : Value) (e a : Int) (w : World) (hc : Bx w p [x, y]) :
    CallsD Tryd.prog 36 #[.pointer (some ⟨p, 0, none⟩)] (.panicking (chn e a)) w fun r u' w' =>
      r = .returned (.tuple #[]) ∧ u' = .panicking [{ v := .iface 68 (.agg #[.int .i64 e, .int .i64 a]), recovered := true }] ∧ w' = ((w.alloc (.cells #[.int .i64 e, .int .i64 a] 68)).setCell ⟨p, 0, none⟩ (.int .i64 e)).setCell ⟨p, 1, none⟩ (.int .i64 a) := by
  refine callsD_of_wpS Tryd.func36 rfl fun c₀ cs hu => ?_
  apply wpS_seq
  apply wpS_region
  simp [wpOpsS, go_sem, recoverD, hu, chn, Tryd.ntmps36, Exit.thenS]
  refine wpS_of_wp ?_
  change Code.wp Tryd.prog _ _ { tmps := #[.pointer (some ⟨p, 0, none⟩), undef, undef, undef, .iface 68 (.agg #[.int .i64 e, .int .i64 a]), undef, undef, undef, undef, undef, undef, undef], defers := [] } w
  have ha := assert68
  have hq := eqnil68
  have hz := hc.at (ba w (.cells #[.int .i64 e, .int .i64 a] 68))
  have z0 := (hz 0 _ rfl).c
  have z1 := (hz 1 _ rfl).c
  have y0 := (hz 0 _ rfl).f
  have y1 := (hz 1 _ rfl).f
  go_wp2
  exact ⟨rfl, _, rfl, _, results_none rfl _ _ _, rfl, rfl, rfl⟩
theorem catchS_ok (p : Addr) (w : World) :
    CallsD Tryd.prog 36 #[.pointer (some p)] .returning w fun r u' w' => r = .returned (.tuple #[]) ∧ u' = .returning ∧ w' = w := by
  refine callsD_of_wpS Tryd.func36 rfl fun c₀ cs hu => ?_
  apply wpS_seq
  apply wpS_region
  simp [wpOpsS, go_sem, recoverD, hu, Tryd.ntmps36, Exit.thenS]
  refine wpS_of_wp ?_
  change Code.wp Tryd.prog _ _ { tmps := #[.pointer (some p), undef, undef, undef, .nilIface, undef, undef, undef, undef, undef, undef, undef], defers := [] } w
  go_wp2
  exact ⟨rfl, .returning, by rw [← hu], _, results_none rfl _ _ _, rfl, rfl, rfl⟩
def CsP (q : Qu) (w : World) (e : Ending) (w' : World) : Prop :=
  (match prtT q with | .ok t => e = .returned (.tuple #[.string (tx t), .agg #[.int .i64 0, .int .i64 0]]) | .error c => e = .returned (.tuple #[.string ⟨#[]⟩, .agg #[.int .i64 c, .int .i64 0]])) ∧ Below w.heap.size w w'
set_option maxHeartbeats 2000000 in
set_option maxRecDepth 100000 in
theorem caughtS_any (q : Qu) (w : World) (B X : Nat) (cs : List Value) (hB : B ≤ w.heap.size) (h5 : 5 ≤ B) (hI : QI w B q cs) (hX : Bx w X cs) (hG : Glo w) (hpt : PT B w) : Calls Tryd.prog 21 #[.func (.func 22) #[] #[.pointer (some ⟨X, 0, none⟩)]] w (CsP q w) := by
  have hmf := hmf
  obtain ⟨W0, hW0⟩ : ∃ W0, w.alloc (.cells #[.int .i64 0, .int .i64 0] 28) = W0 := ⟨_, rfl⟩
  have hb0 : Below w.heap.size w W0 := hW0 ▸ ba _ _
  have HF0 : Hid (Bx W0 w.heap.size f0) := hW0 ▸ Bx.new w f0 28 rfl
  have HBL0 : Hid (Below w.heap.size w W0) := hb0
  have k1 := print1_any q W0 B X cs (Nat.le_trans hB hb0.size) h5 (QI.keep (hb0.mono hB) q hI) (hX.at hb0) (hG.at hb0) (hpt.on (hb0.mono hB))
  obtain ⟨r, hr⟩ : ∃ r, prtT q = r := ⟨_, rfl⟩
  have HRR : Hid (prtT q = r) := hr
  clear hb0 hr hI hX hG hpt
  go_enter_defers Tryd.func21, Tryd.ntmps21
  go_wp2_with fail
  clear hW0
  refine k1.mono ?_
  rintro e w1 ⟨he, hb1⟩
  rw [HRR.out] at he
  have HBL1 : Hid (Below w.heap.size w w1) := bt HBL0.out hb1
  have HF1 : Hid (Bx w1 w.heap.size f0) := HF0.out.at hb1
  clear k1 hb1 HF0
  cases r with
  | error c =>
    obtain rfl : e = .panicked (chn c 0) := he
    go_wp2
    refine leaves_cons (f := 36) (args := #[.pointer (some ⟨w.heap.size, 0, none⟩)]) (by simp) (by simp [go_sem]) ?_
    refine (catchS_no _ _ _ _ _ _ HF1.out).mono ?_
    rintro e u' w'' ⟨rfl, rfl, rfl⟩
    obtain ⟨W7, hW7⟩ : ∃ W7, ((w1.alloc (.cells #[.int .i64 c, .int .i64 0] 68)).setCell ⟨w.heap.size, 0, none⟩ (.int .i64 c)).setCell ⟨w.heap.size, 1, none⟩ (.int .i64 0) = W7 := ⟨_, rfl⟩
    have HBz : Hid (Below w.heap.size w W7) := hW7 ▸ bs (bs (bal HBL1.out _) (p := ⟨w.heap.size, 0, none⟩) (Nat.le_refl _) _) (p := ⟨w.heap.size, 1, none⟩) (Nat.le_refl _) _
    have HF7 : Hid (Bx W7 w.heap.size [.int .i64 c, .int .i64 0]) := hW7 ▸ ((HF1.out.at (ba _ _)).set (i := 0) (by simp) _).set (i := 1) (by simp) _
    rw [hW7]
    clear hW7
    have f0 := (HF7.out 0 _ rfl).c
    have f1 := (HF7.out 1 _ rfl).c
    simp [Leaves, settle, results, Tryd.results21, go_sem, f0, f1]
    exact ⟨by rw [HRR.out], HBz.out⟩
  | ok t =>
    obtain rfl : e = .returned (.string (tx t)) := he
    have p0 := (HF1.out 0 _ rfl).c
    have p1 := (HF1.out 1 _ rfl).c
    have q0 := (HF1.out 0 _ rfl).f
    have q1 := (HF1.out 1 _ rfl).f
    obtain ⟨W7, hW7⟩ : ∃ W7, (w1.setCell ⟨w.heap.size, 0, none⟩ (.int .i64 0)).setCell ⟨w.heap.size, 1, none⟩ (.int .i64 0) = W7 := ⟨_, rfl⟩
    have HF7 : Hid (Bx W7 w.heap.size [.int .i64 0, .int .i64 0]) := hW7 ▸ (HF1.out.set (i := 0) (by simp) _).set (i := 1) (by simp) _
    have HBz : Hid (Below w.heap.size w W7) := hW7 ▸ bs (bs HBL1.out (p := ⟨w.heap.size, 0, none⟩) (Nat.le_refl _) _) (p := ⟨w.heap.size, 1, none⟩) (Nat.le_refl _) _
    go_wp2
    refine leaves_cons (f := 36) (args := #[.pointer (some ⟨w.heap.size, 0, none⟩)]) (by simp) (by simp [go_sem]) ?_
    refine (catchS_ok _ _).mono ?_
    rintro e u' w'' ⟨rfl, rfl, rfl⟩
    have f0 := (HF7.out 0 _ rfl).c
    have f1 := (HF7.out 1 _ rfl).c
    simp [Leaves, settle, results, Tryd.results21, go_sem, f0, f1]
    exact ⟨by rw [HRR.out], HBz.out⟩
/-- what Print answers -/
def prR (q : Qu) : By × Int := match prtT q with
  | .ok t => (t, 0)
  | .error c => ([], c)
set_option maxHeartbeats 2000000 in
set_option maxRecDepth 100000 in
/-- PRINT: the text of a question, or what is wrong with it -/
theorem print_any (q : Qu) (w : World) (B : Nat) (cs : List Value) (hB : B ≤ w.heap.size) (h5 : 5 ≤ B) (hI : QI w B q cs) (hG : Glo w) (hpt : PT B w) (t : By) (er : Int) (hp : prR q = (t, er)) : Calls Tryd.prog 9 #[.agg cs.toArray] w fun e w' => e = .returned (.tuple #[.string (tx t), .int .i64 er]) ∧ Below w.heap.size w w' := by
  have hmf := hmf
  obtain ⟨k, c, lo, hi, wa, wn, wc, ka, kn, kc, rfl⟩ := hI.six
  obtain ⟨W0, hW0⟩ : ∃ W0, w.alloc (.cells #[.int .i64 k, .string (tx c), .int .i64 lo, .int .i64 hi, .slice wa wn wc, .slice ka kn kc] 25) = W0 := ⟨_, rfl⟩
  have hb0 : Below w.heap.size w W0 := hW0 ▸ ba _ _
  have hX : Bx W0 w.heap.size [.int .i64 k, .string (tx c), .int .i64 lo, .int .i64 hi, .slice wa wn wc, .slice ka kn kc] := hW0 ▸ Bx.new w [.int .i64 k, .string (tx c), .int .i64 lo, .int .i64 hi, .slice wa wn wc, .slice ka kn kc] 25 rfl
  have k1 := caughtS_any q W0 B w.heap.size _ (Nat.le_trans hB hb0.size) h5 (QI.keep (hb0.mono hB) q hI) hX (hG.at hb0) (hpt.on (hb0.mono hB))
  have k2 : Calls Tryd.prog 21 #[.func (.func 22) #[] #[.pointer (some ⟨w.heap.size, 0, none⟩)]] W0 fun e w' => (∃ z : Int, e = .returned (.tuple #[.string (tx t), .agg #[.int .i64 er, .int .i64 z]])) ∧ Below W0.heap.size W0 w' := by
    refine k1.mono ?_
    rintro e w' ⟨he, hb⟩
    refine ⟨?_, hb⟩
    unfold prR at hp
    cases hr : prtT q with
    | ok s => rw [hr] at he hp; simp only [Prod.mk.injEq] at hp; obtain ⟨rfl, rfl⟩ := hp; exact ⟨0, he⟩
    | error s => rw [hr] at he hp; simp only [Prod.mk.injEq] at hp; obtain ⟨rfl, rfl⟩ := hp; exact ⟨0, he⟩
  have HBL0 : Hid (Below w.heap.size w W0) := hb0
  clear hb0 hI hX hG hpt k1 hp
  go_enter Tryd.func9, Tryd.ntmps9
  go_wp2_with fail
  clear hW0
  refine k2.mono ?_
  rintro e w1 ⟨⟨z, rfl⟩, hb1⟩
  have HB1 : Hid (Below w.heap.size w w1) := bt HBL0.out hb1
  clear k2 hb1
  obtain ⟨W2, hW2⟩ : ∃ W2, w1.alloc (.cells #[.int .i64 er, .int .i64 z] 28) = W2 := ⟨_, rfl⟩
  have HB2 : Hid (Below w.heap.size w W2) := hW2 ▸ bal HB1.out _
  have HF : Hid (Bx W2 w1.heap.size [.int .i64 er, .int .i64 z]) := hW2 ▸ Bx.new w1 [.int .i64 er, .int .i64 z] 28 rfl
  have f0 := (HF.out 0 _ rfl).c
  go_wp2_with fail
  clear hW2
  go_quiet (fail)
  go_wp2
  go_ret2
  exact ⟨rfl, below_drewN HB2.out _⟩
end Go.Proofs.YtidfkencjdjkbaaDoor
