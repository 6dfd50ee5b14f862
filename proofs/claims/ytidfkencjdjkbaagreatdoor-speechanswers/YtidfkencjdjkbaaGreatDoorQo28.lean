import Derived.Test.YtidfkencjdjkbaaGreatDoorQo27
import Derived.Laws.StructEq
import Derived.Test.YtidfkencjdjkbaaGreatDoorQo03
import Derived.Test.YtidfkencjdjkbaaGreatDoorQo04
import Derived.Test.YtidfkencjdjkbaaGreatDoorQo19
import Derived.Laws.BytesArg
import Derived.BigRegion
import Derived.Test.YtidfkencjdjkbaaGreatDoorQo06
import Derived.Test.YtidfkencjdjkbaaGreatDoorQo22
/-
  PACKAGE speech: Print, whole.
-/
namespace Go.Proofs.YtidfkencjdjkbaaGreatDoor
open Go.RowKit Sp

theorem catchS_no (p : Nat) (x y : Value) (e a : Int) (w : World) (hc : Bx w p [x, y]) :
    CallsD Tryz.prog 31 #[.pointer (some ⟨p, 0, none⟩)] (.panicking (chn e a)) w fun r u' w' =>
      r = .returned (.tuple #[]) ∧ u' = .panicking [{ v := .iface 75 (.agg #[.int .i64 e, .int .i64 a]), recovered := true }] ∧ w' = ((w.alloc (.cells #[.int .i64 e, .int .i64 a] 75)).setCell ⟨p, 0, none⟩ (.int .i64 e)).setCell ⟨p, 1, none⟩ (.int .i64 a) := by
  refine callsD_of_wpS Tryz.func31 rfl fun c₀ cs hu => ?_
  apply wpS_seq
  apply wpS_region
  simp [wpOpsS, go_sem, recoverD, hu, chn, Tryz.ntmps31, Exit.thenS]
  refine wpS_of_wp ?_
  change Code.wp Tryz.prog _ _ { tmps := #[.pointer (some ⟨p, 0, none⟩), undef, undef, undef, .iface 75 (.agg #[.int .i64 e, .int .i64 a]), undef, undef, undef, undef, undef, undef, undef], defers := [] } w
  have ha := assert68
  have hq := eqnil68
  have hz := hc.at (ba w (.cells #[.int .i64 e, .int .i64 a] 75))
  have z0 := (hz 0 _ rfl).c
  have z1 := (hz 1 _ rfl).c
  have y0 := (hz 0 _ rfl).f
  have y1 := (hz 1 _ rfl).f
  go_wp2
  exact ⟨rfl, _, rfl, _, results_none rfl _ _ _, rfl, rfl, rfl⟩
theorem catchS_ok (p : Addr) (w : World) :
    CallsD Tryz.prog 31 #[.pointer (some p)] .returning w fun r u' w' => r = .returned (.tuple #[]) ∧ u' = .returning ∧ w' = w := by
  refine callsD_of_wpS Tryz.func31 rfl fun c₀ cs hu => ?_
  apply wpS_seq
  apply wpS_region
  simp [wpOpsS, go_sem, recoverD, hu, Tryz.ntmps31, Exit.thenS]
  refine wpS_of_wp ?_
  change Code.wp Tryz.prog _ _ { tmps := #[.pointer (some p), undef, undef, undef, .nilIface, undef, undef, undef, undef, undef, undef, undef], defers := [] } w
  go_wp2
  exact ⟨rfl, .returning, by rw [← hu], _, results_none rfl _ _ _, rfl, rfl, rfl⟩
def CsP (q : Qu) (w : World) (e : Ending) (w' : World) : Prop :=
  (match prtT q with | .ok t => e = .returned (.tuple #[.string (tx t), .agg #[.int .i64 0, .int .i64 0]]) | .error c => e = .returned (.tuple #[.string ⟨#[]⟩, .agg #[.int .i64 c, .int .i64 0]])) ∧ Below w.heap.size w w'
set_option maxHeartbeats 2000000 in
set_option maxRecDepth 100000 in
theorem caughtS_any (q : Qu) (w : World) (B X : Nat) (cs : List Value) (hB : B ≤ w.heap.size) (h5 : 5 ≤ B) (hI : QI w B q cs) (hX : Bx w X cs) (hG : Glo w) (hpt : PT B w) : Calls Tryz.prog 11 #[.func (.func 12) #[] #[.pointer (some ⟨X, 0, none⟩)]] w (CsP q w) := by
  have hmf := hmf
  obtain ⟨W0, hW0⟩ : ∃ W0, w.alloc (.cells #[.int .i64 0, .int .i64 0] 36) = W0 := ⟨_, rfl⟩
  have hb0 : Below w.heap.size w W0 := hW0 ▸ ba _ _
  have HF0 : Hid (Bx W0 w.heap.size f0) := hW0 ▸ Bx.new w f0 36 rfl
  have HBL0 : Hid (Below w.heap.size w W0) := hb0
  have k1 := print1_any q W0 B X cs (Nat.le_trans hB hb0.size) h5 (QI.keep (hb0.mono hB) q hI) (hX.at hb0) (hG.at hb0) (hpt.on (hb0.mono hB))
  obtain ⟨r, hr⟩ : ∃ r, prtT q = r := ⟨_, rfl⟩
  have HRR : Hid (prtT q = r) := hr
  clear hb0 hr hI hX hG hpt
  go_enter_defers Tryz.func11, Tryz.ntmps11
  go_wp2_with fail
  clear hW0
  refine k1.mono ?_
  rintro e w1 ⟨he, hb1⟩
  rw [HRR.out] at he
  have HBL1 : Hid (Below w.heap.size w w1) := bt HBL0.out hb1
  have HF1 : Hid (Bx w1 w.heap.size f0) := HF0.out.at hb1
  clear k1 hb1 HF0
  cases r with
  | error c =>
    obtain rfl : e = .panicked (chn c 0) := he
    go_wp2
    refine leaves_cons (f := 31) (args := #[.pointer (some ⟨w.heap.size, 0, none⟩)]) (by simp) (by simp [go_sem]) ?_
    refine (catchS_no _ _ _ _ _ _ HF1.out).mono ?_
    rintro e u' w'' ⟨rfl, rfl, rfl⟩
    obtain ⟨W7, hW7⟩ : ∃ W7, ((w1.alloc (.cells #[.int .i64 c, .int .i64 0] 75)).setCell ⟨w.heap.size, 0, none⟩ (.int .i64 c)).setCell ⟨w.heap.size, 1, none⟩ (.int .i64 0) = W7 := ⟨_, rfl⟩
    have HBz : Hid (Below w.heap.size w W7) := hW7 ▸ bs (bs (bal HBL1.out _) (p := ⟨w.heap.size, 0, none⟩) (Nat.le_refl _) _) (p := ⟨w.heap.size, 1, none⟩) (Nat.le_refl _) _
    have HF7 : Hid (Bx W7 w.heap.size [.int .i64 c, .int .i64 0]) := hW7 ▸ ((HF1.out.at (ba _ _)).set (i := 0) (by simp) _).set (i := 1) (by simp) _
    rw [hW7]
    clear hW7
    have f0 := (HF7.out 0 _ rfl).c
    have f1 := (HF7.out 1 _ rfl).c
    simp [Leaves, settle, results, Tryz.results11, go_sem, f0, f1]
    exact ⟨by rw [HRR.out], HBz.out⟩
  | ok t =>
    obtain rfl : e = .returned (.string (tx t)) := he
    have p0 := (HF1.out 0 _ rfl).c
    have p1 := (HF1.out 1 _ rfl).c
    have q0 := (HF1.out 0 _ rfl).f
    have q1 := (HF1.out 1 _ rfl).f
    obtain ⟨W7, hW7⟩ : ∃ W7, (w1.setCell ⟨w.heap.size, 0, none⟩ (.int .i64 0)).setCell ⟨w.heap.size, 1, none⟩ (.int .i64 0) = W7 := ⟨_, rfl⟩
    have HF7 : Hid (Bx W7 w.heap.size [.int .i64 0, .int .i64 0]) := hW7 ▸ (HF1.out.set (i := 0) (by simp) _).set (i := 1) (by simp) _
    have HBz : Hid (Below w.heap.size w W7) := hW7 ▸ bs (bs HBL1.out (p := ⟨w.heap.size, 0, none⟩) (Nat.le_refl _) _) (p := ⟨w.heap.size, 1, none⟩) (Nat.le_refl _) _
    go_wp2
    refine leaves_cons (f := 31) (args := #[.pointer (some ⟨w.heap.size, 0, none⟩)]) (by simp) (by simp [go_sem]) ?_
    refine (catchS_ok _ _).mono ?_
    rintro e u' w'' ⟨rfl, rfl, rfl⟩
    have f0 := (HF7.out 0 _ rfl).c
    have f1 := (HF7.out 1 _ rfl).c
    simp [Leaves, settle, results, Tryz.results11, go_sem, f0, f1]
    exact ⟨by rw [HRR.out], HBz.out⟩
/-- what Print answers -/
def prR (q : Qu) : By × Int := match prtT q with
  | .ok t => (t, 0)
  | .error c => ([], c)
set_option maxHeartbeats 2000000 in
set_option maxRecDepth 100000 in
/-- PRINT: the text of a question, or what is wrong with it -/
theorem print_any (q : Qu) (w : World) (B : Nat) (cs : List Value) (hB : B ≤ w.heap.size) (h5 : 5 ≤ B) (hI : QI w B q cs) (hG : Glo w) (hpt : PT B w) (t : By) (er : Int) (hp : prR q = (t, er)) : Calls Tryz.prog 5 #[.agg cs.toArray] w fun e w' => e = .returned (.tuple #[.string (tx t), .int .i64 er]) ∧ Below w.heap.size w w' := by
  have hmf := hmf
  obtain ⟨k, c, lo, hi, wa, wn, wc, ka, kn, kc, rfl⟩ := hI.six
  obtain ⟨W0, hW0⟩ : ∃ W0, w.alloc (.cells #[.int .i64 k, .string (tx c), .int .i64 lo, .int .i64 hi, .slice wa wn wc, .slice ka kn kc] 25) = W0 := ⟨_, rfl⟩
  have hb0 : Below w.heap.size w W0 := hW0 ▸ ba _ _
  have hX : Bx W0 w.heap.size [.int .i64 k, .string (tx c), .int .i64 lo, .int .i64 hi, .slice wa wn wc, .slice ka kn kc] := hW0 ▸ Bx.new w [.int .i64 k, .string (tx c), .int .i64 lo, .int .i64 hi, .slice wa wn wc, .slice ka kn kc] 25 rfl
  have k1 := caughtS_any q W0 B w.heap.size _ (Nat.le_trans hB hb0.size) h5 (QI.keep (hb0.mono hB) q hI) hX (hG.at hb0) (hpt.on (hb0.mono hB))
  have k2 : Calls Tryz.prog 11 #[.func (.func 12) #[] #[.pointer (some ⟨w.heap.size, 0, none⟩)]] W0 fun e w' => (∃ z : Int, e = .returned (.tuple #[.string (tx t), .agg #[.int .i64 er, .int .i64 z]])) ∧ Below W0.heap.size W0 w' := by
    refine k1.mono ?_
    rintro e w' ⟨he, hb⟩
    refine ⟨?_, hb⟩
    unfold prR at hp
    cases hr : prtT q with
    | ok s => rw [hr] at he hp; simp only [Prod.mk.injEq] at hp; obtain ⟨rfl, rfl⟩ := hp; exact ⟨0, he⟩
    | error s => rw [hr] at he hp; simp only [Prod.mk.injEq] at hp; obtain ⟨rfl, rfl⟩ := hp; exact ⟨0, he⟩
  have HBL0 : Hid (Below w.heap.size w W0) := hb0
  clear hb0 hI hX hG hpt k1 hp
  go_enter Tryz.func5, Tryz.ntmps5
  go_wp2_with fail
  clear hW0
  refine k2.mono ?_
  rintro e w1 ⟨⟨z, rfl⟩, hb1⟩
  have HB1 : Hid (Below w.heap.size w w1) := bt HBL0.out hb1
  clear k2 hb1
  obtain ⟨W2, hW2⟩ : ∃ W2, w1.alloc (.cells #[.int .i64 er, .int .i64 z] 36) = W2 := ⟨_, rfl⟩
  have HB2 : Hid (Below w.heap.size w W2) := hW2 ▸ bal HB1.out _
  have HF : Hid (Bx W2 w1.heap.size [.int .i64 er, .int .i64 z]) := hW2 ▸ Bx.new w1 [.int .i64 er, .int .i64 z] 36 rfl
  have f0 := (HF.out 0 _ rfl).c
  go_wp2_with fail
  clear hW2
  go_quiet (fail)
  go_wp2
  go_ret2
  exact ⟨rfl, below_drewN HB2.out _⟩
end Go.Proofs.YtidfkencjdjkbaaGreatDoor

/-
  The document's own Same, of one question in two places.
-/
namespace Go.Proofs.YtidfkencjdjkbaaGreatDoor
open Go.RowKit Sp

/-- what was read can come in -/
theorem ti_of {lo : Nat} {w : World} {l : List Tst} {v : Value} (h : TsV lo w l v) (hl : WOk l) : TI w w.heap.size l v := by
  have hb : ∀ t ∈ l, t.1.length ≤ 9223372036854775807 ∧ (-9223372036854775808 ≤ t.2.1 ∧ t.2.1 ≤ 9223372036854775807) ∧ (-9223372036854775808 ≤ t.2.2 ∧ t.2.2 ≤ 9223372036854775807) := fun t ht => by
    obtain ⟨h1, h2, h3, h4, h5⟩ := hl.2 t ht
    have := nmd_len h1
    exact ⟨by omega, ⟨by omega, by omega⟩, ⟨by omega, by omega⟩⟩
  rcases h with ⟨rfl, rfl⟩ | ⟨g, c, rfl, h2, h3, h4, h5, h6⟩
  · exact ⟨none, 0, rfl, Nat.le_refl _, by simp, hb, fun hne => absurd rfl hne⟩
  · exact ⟨_, c, rfl, h2, by omega, hb, fun _ => ⟨g, 0, rfl, h4, fun i t ht j u hu => by rw [Nat.zero_add]; exact h6 i t ht j u hu⟩⟩
theorem qi_of {lo : Nat} {w : World} : ∀ (q : Qu) {cs : List Value}, QV lo w q cs → Say q → QI w w.heap.size q cs
  | .none, _, h, _ => h.elim
  | .node k c l h' wh n x y, cs, h, hs => by
    obtain ⟨wv, kv, rfl, hT, hk⟩ := h
    have hS : WOk wh ∧ c.length ≤ 32 ∧ (0 < k ∧ k ≤ 10) ∧ (-1048576 ≤ l ∧ l ≤ 1048576) ∧ (-1048576 ≤ h' ∧ h' ≤ 1048576) ∧ (n = 0 → x = .none) ∧ (n ≤ 1 → y = .none) ∧ (1 ≤ n → Say x) ∧ (2 ≤ n → Say y) := by
      rcases hs with ⟨rfl, rfl, rfl, rfl, rfl, hwh, rfl, rfl⟩ | ⟨rfl, hc, hlo, hhi, rfl, hwh, rfl, rfl⟩ | ⟨rfl, hc, rfl, rfl, rfl, hwh, rfl, rfl⟩ | ⟨hk4, rfl, rfl, rfl, rfl, rfl, hx, hy⟩ | ⟨rfl, rfl, hlo, rfl, rfl, rfl, hx, rfl⟩ | ⟨rfl, rfl, rfl, rfl, rfl, rfl, hx, rfl⟩ | ⟨rfl, rfl, hlo, rfl, rfl, rfl, hx, rfl⟩ | ⟨rfl, rfl, hlo, hhi, rfl, rfl, hx, rfl⟩
      · exact ⟨hwh, by simp, by omega, by omega, by omega, fun _ => rfl, fun _ => rfl, fun h => by omega, fun h => by omega⟩
      · exact ⟨hwh, nmd_len hc, by omega, hlo, hhi, fun _ => rfl, fun _ => rfl, fun h => by omega, fun h => by omega⟩
      · exact ⟨hwh, nmd_len hc, by omega, by omega, by omega, fun _ => rfl, fun _ => rfl, fun h => by omega, fun h => by omega⟩
      · exact ⟨⟨by simp, by simp⟩, by simp, by rcases hk4 with rfl | rfl | rfl <;> exact ⟨by decide, by decide⟩, by omega, by omega, fun h => by omega, fun h => by omega, fun _ => hx, fun _ => hy⟩
      · exact ⟨⟨by simp, by simp⟩, by simp, by omega, hlo, by omega, fun h => by omega, fun _ => rfl, fun _ => hx, fun h => by omega⟩
      · exact ⟨⟨by simp, by simp⟩, by simp, by omega, by omega, by omega, fun h => by omega, fun _ => rfl, fun _ => hx, fun h => by omega⟩
      · exact ⟨⟨by simp, by simp⟩, by simp, by omega, ⟨by omega, hlo.2⟩, by omega, fun h => by omega, fun _ => rfl, fun _ => hx, fun h => by omega⟩
      · exact ⟨⟨by simp, by simp⟩, by simp, by omega, hlo, hhi, fun h => by omega, fun _ => rfl, fun _ => hx, fun h => by omega⟩
    obtain ⟨hwh, hcl, hkb, hlb, hhb, hx0, hy0, hx, hy⟩ := hS
    have hT2 := ti_of hT hwh
    rcases hk with ⟨rfl, rfl⟩ | ⟨rfl, g, xs, rfl, h1, h2, h3, h4⟩ | ⟨rfl, g, xs, ys, rfl, h1, h2, h3, h4, h5⟩
    · exact ⟨wv, none, 0, rfl, hT2, Nat.le_refl _, by omega, by omega, by omega, by omega, by omega, hx0, hy0, fun h => by omega⟩
    · exact ⟨wv, _, 1, rfl, hT2, Nat.le_refl _, by omega, by omega, by omega, by omega, by omega, hx0, hy0, fun _ _ => ⟨g, 0, rfl, h2, ⟨xs, qi_of x h3 (hx (by omega)), fun j u hu => by rw [Nat.zero_add]; exact h4 j u hu⟩, fun h => by omega⟩⟩
    · refine ⟨wv, _, 2, rfl, hT2, Nat.le_refl _, by omega, by omega, by omega, by omega, by omega, hx0, hy0, fun _ _ => ⟨g, 0, rfl, h2, ⟨xs, qi_of x h3 (hx (by omega)), fun j u hu => ?_⟩, fun _ => ⟨ys, qi_of y h4 (hy (by omega)), fun j u hu => ?_⟩⟩⟩
      · rw [Nat.zero_add]
        exact h5 j u (by rw [List.getElem?_append_left (List.getElem?_eq_some_iff.1 hu).1]; exact hu)
      · obtain ⟨q1, q2, q3, q4, q5, q6, q7, q8, q9, q10, rfl⟩ := h3.six
        rw [Nat.zero_add]
        refine h5 (6 + j) u ?_
        rw [List.getElem?_append_right (by simp)]
        simpa using hu
/-- nothing -/
abbrev Qz : Qu := .node 0 [] 0 0 [] 0 .none .none
theorem qi_zero (w : World) (B : Nat) : QI w B Qz [.int .i64 0, .string ⟨#[]⟩, .int .i64 0, .int .i64 0, .slice none 0 0, .slice none 0 0] :=
  ⟨_, none, 0, rfl, ⟨none, 0, rfl, Nat.le_refl _, by simp, by simp, fun h => absurd rfl h⟩, Nat.le_refl _, by omega, by simp, by omega, by omega, by omega, fun _ => rfl, fun _ => rfl, fun h => by omega⟩
end Go.Proofs.YtidfkencjdjkbaaGreatDoor

/-
  What Print and Read say of each other, as the laws ask it; alive.
-/
namespace Go.Proofs.YtidfkencjdjkbaaGreatDoor
open Go.RowKit Sp

/-! ### what is wrong has a number -/
/-! ### what can be said may be said -/
/-- what is printed is read -/
theorem prR_ok {w : World} {B : Nat} {q : Qu} {cs : List Value} {t : By} (hI : QI w B q cs) (h : prR q = (t, 0)) : Say q ∧ readT t = .ok q ∧ t.length ≤ 65536 := by
  unfold prR at h
  cases hp : prtT q with
  | error c =>
    rw [hp] at h
    simp only [Prod.mk.injEq] at h
    obtain ⟨_, rfl⟩ := h
    unfold prtT at hp
    repeat' split at hp
    all_goals cases hp
  | ok s =>
    rw [hp] at h
    simp only [Prod.mk.injEq] at h
    obtain ⟨rfl, _⟩ := h
    unfold prtT at hp
    by_cases h1 : ckB q = true
    · rw [if_pos h1] at hp
      by_cases h2 : (txtT q).length ≤ 65536
      · rw [if_pos h2] at hp
        have hS := say_of_ck q cs hI h1
        by_cases h3 : mchB (txtT q) = true
        · rw [if_pos h3] at hp; cases hp
        · rw [if_neg h3] at hp
          injection hp with hp
          subst hp
          refine ⟨hS, ?_, h2⟩
          rcases read_said hS h2 with hr | ⟨n, hr⟩
          · exact hr
          · refine absurd ?_ h3
            rw [mchB, hr]
            rfl
      · rw [if_neg h2] at hp; cases hp
    · rw [if_neg h1] at hp; cases hp
theorem alive_read : readT wCount = .ok (.node 1 [] 0 0 [] 0 .none .none) := by kernel_rfl
/-- what Read answers, in letters -/
def RdA (t : By) (q : Qu) (er at' : Int) : Prop := match readT t with
  | .ok a => q = a ∧ er = 0 ∧ at' = 0
  | .error (c, x) => q = Qz ∧ er = c ∧ at' = (x : Int)
theorem read_let (t : By) (htl : t.length ≤ 9223372036854775807) (w : World) (hG : Glo w) : Calls Tryz.prog 8 #[.string (tx t)] w fun e w' => (∃ (q : Qu) (er at' : Int) (k : Int) (c : By) (lo hi : Int) (wa : Option Addr) (wn wc : Nat) (ka : Option Addr) (kn kc : Nat), e = .returned (.tuple #[.agg #[.int .i64 k, .string (tx c), .int .i64 lo, .int .i64 hi, .slice wa wn wc, .slice ka kn kc], .agg #[.int .i64 er, .int .i64 at']]) ∧ RdA t q er at' ∧ ∀ W, Kp w.heap.size w' W → QI W W.heap.size q [.int .i64 k, .string (tx c), .int .i64 lo, .int .i64 hi, .slice wa wn wc, .slice ka kn kc]) ∧ Below w.heap.size w w' := by
  refine (read_any t htl w hG).mono ?_
  rintro e w' ⟨he, hb⟩
  refine ⟨?_, hb⟩
  cases hr : readT t with
  | ok a =>
    rw [hr] at he
    obtain ⟨cs, rfl, hq⟩ := he
    obtain ⟨k, c, l, hh, a4, n4, c4, a5, n5, c5, rfl⟩ := hq.six
    exact ⟨a, 0, 0, k, c, l, hh, a4, n4, c4, a5, n5, c5, rfl, by rw [RdA, hr]; exact ⟨rfl, rfl, rfl⟩, fun W hW => qi_of a (QV.kp hW a hq) (read_say hr)⟩
  | error x =>
    obtain ⟨c, x⟩ := x
    rw [hr] at he
    exact ⟨Qz, c, x, 0, [], 0, 0, none, 0, 0, none, 0, 0, he, by rw [RdA, hr]; exact ⟨rfl, rfl, rfl⟩, fun W _ => qi_zero W _⟩
theorem QI.kind {w : World} {B : Nat} {q : Qu} {k : Int} {r : List Value} (h : QI w B q (.int .i64 k :: r)) : ∃ c lo hi wh n x y, q = .node k c lo hi wh n x y := by
  cases q with
  | none => exact h.elim
  | node k2 c2 lo2 hi2 wh2 n2 x2 y2 =>
    obtain ⟨wv, ka, kc, e, _⟩ := h
    simp only [List.cons.injEq, Value.int.injEq, true_and] at e
    rw [e.1]
    exact ⟨_, _, _, _, _, _, _, rfl⟩
set_option maxHeartbeats 1000000 in
set_option maxRecDepth 100000 in
theorem alive_any (w : World) (hG : Glo w) : Calls Tryz.prog 7 #[] w fun e w' => e = .returned (.bool true) ∧ Below w.heap.size w w' := by
  have k2 := read_let wCount (by decide) w hG
  go_enter Tryz.func7, Tryz.ntmps7
  go_wp2_with fail
  refine k2.mono ?_
  rintro e w1 ⟨⟨q, er, at', k, c, lo, hi, wa, wn, wc, ka, kn, kc, rfl, hrd, hq⟩, hb1⟩
  have HB1 : Hid (Below w.heap.size w w1) := hb1
  rw [RdA, alive_read] at hrd
  obtain ⟨rfl, her, hat⟩ := hrd
  obtain ⟨c', lo', hi', wh', n', x', y', he⟩ := (hq w1 (Kp.bl (Below.refl _ _))).kind
  simp only [Qu.node.injEq] at he
  have d1 : (er == 0) = true := by simpa using her
  have d2 : (k == 1) = true := by simpa using he.1.symm
  clear k2 hb1 hq he her hat
  obtain ⟨W2, hW2⟩ : ∃ W2, (w1.alloc (.cells #[.int .i64 k, .string (tx c), .int .i64 lo, .int .i64 hi, .slice wa wn wc, .slice ka kn kc] 25)).alloc (.cells #[.int .i64 er, .int .i64 at'] 36) = W2 := ⟨_, rfl⟩
  have HB2 : Hid (Below w.heap.size w W2) := hW2 ▸ bal (bal HB1.out _) _
  have g0 : W2.cell? ⟨w1.heap.size, 0, none⟩ = some (.int .i64 k) := hW2 ▸ (((Bx.new w1 [.int .i64 k, .string (tx c), .int .i64 lo, .int .i64 hi, .slice wa wn wc, .slice ka kn kc] 25 rfl).at (ba _ _)) 0 _ rfl).c
  have f0 : W2.cell? ⟨w1.heap.size + 1, 0, none⟩ = some (.int .i64 er) := hW2 ▸ ((Bx.new (w1.alloc (.cells #[.int .i64 k, .string (tx c), .int .i64 lo, .int .i64 hi, .slice wa wn wc, .slice ka kn kc] 25)) [.int .i64 er, .int .i64 at'] 36 (by simp)) 0 _ rfl).c
  go_wp2
  clear hW2
  go_ret
  exact ⟨rfl, HB2.out⟩
end Go.Proofs.YtidfkencjdjkbaaGreatDoor

/-
  CHAPTER 15's MATHEMATICS (6): what is too much to be said, by levels, signs and picks, just as what is too much to be heard.
-/
namespace Go.Proofs.YtidfkencjdjkbaaGreatDoor
namespace Sp
open Go.Lib (decDigits itoa)

end Sp
end Go.Proofs.YtidfkencjdjkbaaGreatDoor

/-
  CHAPTER 15's MATHEMATICS (7): the text of a question, put together from the texts of its parts.
-/
namespace Go.Proofs.YtidfkencjdjkbaaGreatDoor
namespace Sp
open Go.Lib (decDigits itoa)

/-! ### the texts of tests -/
/-! ### the texts of questions -/
end Sp
end Go.Proofs.YtidfkencjdjkbaaGreatDoor

/-
  The document's own answer, chapter 15, Print: names, numbers.
-/
namespace Go.Proofs.YtidfkencjdjkbaaGreatDoor
open Go.RowKit Sp

end Go.Proofs.YtidfkencjdjkbaaGreatDoor

/-
  The document's own answer, chapter 15, Print: numbers as texts.
-/
namespace Go.Proofs.YtidfkencjdjkbaaGreatDoor
open Go.RowKit Sp
open Go.Lib (decDigits itoa)

end Go.Proofs.YtidfkencjdjkbaaGreatDoor

/-
  The document's own answer, chapter 15, Print: tests as texts.
-/
namespace Go.Proofs.YtidfkencjdjkbaaGreatDoor
open Go.RowKit Sp
open Go.Lib (decDigits itoa)

end Go.Proofs.YtidfkencjdjkbaaGreatDoor

/-
  The document's own answer, chapter 15, Print: tests as texts.
-/
namespace Go.Proofs.YtidfkencjdjkbaaGreatDoor
open Go.RowKit Sp
open Go.Lib (decDigits itoa)

end Go.Proofs.YtidfkencjdjkbaaGreatDoor

/-
  The document's own answer, chapter 15, Print: signs and picks, one behind the other.
-/
namespace Go.Proofs.YtidfkencjdjkbaaGreatDoor
open Go.RowKit Sp

end Go.Proofs.YtidfkencjdjkbaaGreatDoor

/-
  The document's own answer, chapter 15, Print: the text of a question; brackets.
-/
namespace Go.Proofs.YtidfkencjdjkbaaGreatDoor
open Go.RowKit Sp
open Go.Lib (decDigits itoa)

/-- how many questions a question has -/
def sizQ : Qu → Nat
  | .none => 0
  | .node _ _ _ _ _ _ x y => 1 + sizQ x + sizQ y
end Go.Proofs.YtidfkencjdjkbaaGreatDoor
