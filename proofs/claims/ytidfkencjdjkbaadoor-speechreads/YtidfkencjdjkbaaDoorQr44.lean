import Derived.Test.YtidfkencjdjkbaaDoorQr30
import Derived.Test.YtidfkencjdjkbaaDoorQr43
import Derived.Test.YtidfkencjdjkbaaDoorQr25
import Derived.Deep.SlicePairs
import Derived.Deep.Slices
import Derived.ProofKit
import Derived.OpenShut
import Derived.Lib.SmallJoins
import Derived.Carry
import Derived.Deep.Grids
import Derived.ChangeSame
/-
  LAW SpeechTurns: WHAT IS SAID IS HEARD.
-/
namespace Go.Proofs.YtidfkencjdjkbaaDoor
open Go.RowKit Sp

/-- what comes behind the first half: the text s -/
theorem mkbx {w1 : World} (a b : List Value) {W2 : World} (hW2 : (w1.alloc (.cells a.toArray 25)).alloc (.cells b.toArray 28) = W2) : Bx W2 w1.heap.size a ∧ Bx W2 (w1.heap.size + 1) b ∧ Below w1.heap.size w1 W2 := by
  subst hW2
  exact ⟨(Bx.new w1 a 25 rfl).at (ba _ _), Bx.new _ b 28 (by simp), bal (ba _ _) _⟩
end Go.Proofs.YtidfkencjdjkbaaDoor

/-
  LAW SpeechReads: Read of anything.
-/
namespace Go.Proofs.YtidfkencjdjkbaaDoor
open Go.RowKit Sp

theorem rread_let (t : By) (htl : t.length ≤ 9223372036854775807) (w : World) : Calls Tryd.prog 6 #[.string (tx t)] w fun e w' => (∃ (q : Qu) (er at' : Int) (k : Int) (c : By) (lo hi : Int) (wa : Option Addr) (wn wc : Nat) (ka : Option Addr) (kn kc : Nat), e = .returned (.tuple #[.agg #[.int .i64 k, .string (tx c), .int .i64 lo, .int .i64 hi, .slice wa wn wc, .slice ka kn kc], .agg #[.int .i64 er, .int .i64 at']]) ∧ RdA t q er at' ∧ ∀ W, Kp w.heap.size w' W → QI W W.heap.size q [.int .i64 k, .string (tx c), .int .i64 lo, .int .i64 hi, .slice wa wn wc, .slice ka kn kc]) ∧ Below w.heap.size w w' := by
  refine (rread_any t htl w).mono ?_
  rintro e w' ⟨he, hb⟩
  refine ⟨?_, hb⟩
  cases hr : readT t with
  | ok a =>
    rw [hr] at he
    obtain ⟨cs, rfl, hq⟩ := he
    obtain ⟨k, c, l, hh, a4, n4, c4, a5, n5, c5, rfl⟩ := hq.six
    exact ⟨a, 0, 0, k, c, l, hh, a4, n4, c4, a5, n5, c5, rfl, by rw [RdA, hr]; exact ⟨rfl, rfl, rfl⟩, fun W hW => qi_of_n a (QN.kp (G' := fun g => w.heap.size ≤ g) ⟨hW.1, fun g h1 h2 => hW.2 g h1 h2⟩ (fun g h _ => h) a hq) (read_say hr)⟩
  | error x =>
    obtain ⟨c, x⟩ := x
    rw [hr] at he
    exact ⟨Qz, c, x, 0, [], 0, 0, none, 0, 0, none, 0, 0, he, by rw [RdA, hr]; exact ⟨rfl, rfl, rfl⟩, fun W _ => qi_zero W _⟩
theorem RdA.eq {t : By} {q q' : Qu} {e a e' a' : Int} (h : RdA t q e a) (h' : RdA t q' e' a') : q' = q ∧ e' = e ∧ a' = a := by
  unfold RdA at h h'
  cases hr : readT t with
  | ok x =>
    rw [hr] at h h'
    obtain ⟨rfl, rfl, rfl⟩ := h
    exact h'
  | error x =>
    obtain ⟨c, x⟩ := x
    rw [hr] at h h'
    obtain ⟨rfl, rfl, rfl⟩ := h
    exact h'
theorem RdA.sm {t : By} {q : Qu} {e a : Int} (h : RdA t q e a) : Sm q := by
  unfold RdA at h
  cases hr : readT t with
  | ok x =>
    rw [hr] at h
    obtain ⟨rfl, _, _⟩ := h
    exact say_sm q (read_say hr)
  | error x =>
    obtain ⟨c, x⟩ := x
    rw [hr] at h
    obtain ⟨rfl, _, _⟩ := h
    exact ⟨by omega, trivial, trivial⟩
theorem flt_struct : Tryd.prog.underlying 28 = some (.struct (Tryd.prog.fieldsOf 28)) := by rw [Program.fieldsOf, Tryd.underlying28]
theorem flt_held : Tryd.prog.stoodInHeld 28 = false := by kernel_rfl
theorem flt_fields : ∃ f0 f1 : Field, (Tryd.prog.fieldsOf 28).toList = [f0, f1] ∧ f0.name ≠ "_" ∧ f1.name ≠ "_" ∧ f0.type = 26 ∧ f1.type = 3 ∧ f0.offset = 0 ∧ f1.offset = 1 := by
  refine ⟨_, _, by rw [Program.fieldsOf, Tryd.underlying28], by decide, by decide, rfl, rfl, rfl, rfl⟩
theorem flt_eql (s t : Int) (u : World) : (binOp .eql 28 (.agg #[.int .i64 s, .int .i64 t]) (.agg #[.int .i64 s, .int .i64 t])).run Tryd.prog u = .ok (.bool true) u := by
  obtain ⟨f0, f1, hf, n0, n1, t0, t1, o0, o1⟩ := flt_fields
  rw [run_eql_struct, run_equalIn_struct u 9999 28 _ _ flt_struct flt_held, hf]
  simp [Op.eqFields, n0, n1, t0, t1, o0, o1, go_sem, Tryd.underlying26, Tryd.underlying3]
set_option maxHeartbeats 4000000 in
set_option maxRecDepth 100000 in
theorem speechReads_walk (s : By) (w : World) (hs : s.length ≤ 9223372036854775807) (hG : Glo w) (_ : PT w.heap.size w) : Calls Tryd.prog 3 #[.string (tx s)] w fun e w' => e = .returned (.bool true) ∧ Below w.heap.size w w' := by
  have k1 := read_let s hs w hG
  go_enter Tryd.func3, Tryd.ntmps3
  go_wp2_with fail
  refine k1.mono ?_
  rintro e w1 ⟨⟨q1, er1, at1, k1, c1, lo1, hi1, wa1, wn1, wc1, ka1, kn1, kc1, rfl, hrd1, hq1⟩, hb1⟩
  have HRD1 : Hid (RdA s q1 er1 at1) := hrd1
  have HQ1 : Hid (∀ W, Kp w.heap.size w1 W → QI W W.heap.size q1 [.int .i64 k1, .string (tx c1), .int .i64 lo1, .int .i64 hi1, .slice wa1 wn1 wc1, .slice ka1 kn1 kc1]) := hq1
  have HB1 : Hid (Below w.heap.size w w1) := hb1
  clear hrd1 hq1 hb1
  obtain ⟨W2, hW2⟩ : ∃ W2, (w1.alloc (.cells #[.int .i64 k1, .string (tx c1), .int .i64 lo1, .int .i64 hi1, .slice wa1 wn1 wc1, .slice ka1 kn1 kc1] 25)).alloc (.cells #[.int .i64 er1, .int .i64 at1] 28) = W2 := ⟨_, rfl⟩
  obtain ⟨xx2, yy2, b2⟩ := mkbx [.int .i64 k1, .string (tx c1), .int .i64 lo1, .int .i64 hi1, .slice wa1 wn1 wc1, .slice ka1 kn1 kc1] [.int .i64 er1, .int .i64 at1] hW2
  have HX2 : Hid (Bx W2 w1.heap.size [.int .i64 k1, .string (tx c1), .int .i64 lo1, .int .i64 hi1, .slice wa1 wn1 wc1, .slice ka1 kn1 kc1]) := xx2
  have HY2 : Hid (Bx W2 (w1.heap.size + 1) [.int .i64 er1, .int .i64 at1]) := yy2
  have HW2 : Hid (Below w1.heap.size w1 W2) := b2
  have k2 := rread_let s hs W2
  clear xx2 yy2 b2
  go_wp2_with fail
  clear hW2
  refine k2.mono ?_
  rintro e w3 ⟨⟨q2, er2, at2, k2, c2, lo2, hi2, wa2, wn2, wc2, ka2, kn2, kc2, rfl, hrd2, hq2⟩, hb3⟩
  obtain ⟨rfl, rfl, rfl⟩ := HRD1.out.eq hrd2
  have HQ2 : Hid (∀ W, Kp W2.heap.size w3 W → QI W W.heap.size q2 [.int .i64 k2, .string (tx c2), .int .i64 lo2, .int .i64 hi2, .slice wa2 wn2 wc2, .slice ka2 kn2 kc2]) := hq2
  have HX3 : Hid (Bx w3 w1.heap.size [.int .i64 k1, .string (tx c1), .int .i64 lo1, .int .i64 hi1, .slice wa1 wn1 wc1, .slice ka1 kn1 kc1]) := HX2.out.at hb3
  have HY3 : Hid (Bx w3 (w1.heap.size + 1) [.int .i64 er2, .int .i64 at2]) := HY2.out.at hb3
  have HW3 : Hid (Below W2.heap.size W2 w3) := hb3
  clear hrd2 hq2 hb3 HX2 HY2
  obtain ⟨W4, hW4⟩ : ∃ W4, (w3.alloc (.cells #[.int .i64 k2, .string (tx c2), .int .i64 lo2, .int .i64 hi2, .slice wa2 wn2 wc2, .slice ka2 kn2 kc2] 25)).alloc (.cells #[.int .i64 er2, .int .i64 at2] 28) = W4 := ⟨_, rfl⟩
  obtain ⟨xx4, yy4, b4⟩ := mkbx [.int .i64 k2, .string (tx c2), .int .i64 lo2, .int .i64 hi2, .slice wa2 wn2 wc2, .slice ka2 kn2 kc2] [.int .i64 er2, .int .i64 at2] hW4
  have HX4 : Hid (Bx W4 w3.heap.size [.int .i64 k2, .string (tx c2), .int .i64 lo2, .int .i64 hi2, .slice wa2 wn2 wc2, .slice ka2 kn2 kc2]) := xx4
  have HY4 : Hid (Bx W4 (w3.heap.size + 1) [.int .i64 er2, .int .i64 at2]) := yy4
  have HXa : Hid (Bx W4 w1.heap.size [.int .i64 k1, .string (tx c1), .int .i64 lo1, .int .i64 hi1, .slice wa1 wn1 wc1, .slice ka1 kn1 kc1]) := HX3.out.at b4
  have HYa : Hid (Bx W4 (w1.heap.size + 1) [.int .i64 er2, .int .i64 at2]) := HY3.out.at b4
  have HW4 : Hid (Below w3.heap.size w3 W4) := b4
  have HB4 : Hid (Below w.heap.size w W4) := bt (bt (bt HB1.out HW2.out) HW3.out) b4
  have ksm := same_any q2 W4 W4.heap.size _ _ (Nat.le_refl _) HRD1.out.sm (HQ1.out W4 ((Kp.bl HW2.out).trans ((Kp.bl HW3.out).trans (Kp.bl b4)))) (HQ2.out W4 (Kp.bl b4))
  clear xx4 yy4 b4 HX3 HY3
  have z0 := (HX4.out 0 _ rfl).c
  have z1 := (HX4.out 1 _ rfl).c
  have z2 := (HX4.out 2 _ rfl).c
  have z3 := (HX4.out 3 _ rfl).c
  have z4 := (HX4.out 4 _ rfl).c
  have z5 := (HX4.out 5 _ rfl).c
  have y0 := (HXa.out 0 _ rfl).c
  have y1 := (HXa.out 1 _ rfl).c
  have y2 := (HXa.out 2 _ rfl).c
  have y3 := (HXa.out 3 _ rfl).c
  have y4 := (HXa.out 4 _ rfl).c
  have y5 := (HXa.out 5 _ rfl).c
  go_wp2_with fail
  clear hW4
  refine ksm.mono ?_
  rintro e w5 ⟨rfl, hb5⟩
  have HYb : Hid (Bx w5 (w3.heap.size + 1) [.int .i64 er2, .int .i64 at2]) := HY4.out.at hb5
  have HYc : Hid (Bx w5 (w1.heap.size + 1) [.int .i64 er2, .int .i64 at2]) := HYa.out.at hb5
  have HB5 : Hid (Below w.heap.size w w5) := bt HB4.out hb5
  clear ksm hb5 z0 z1 z2 z3 z4 z5 y0 y1 y2 y3 y4 y5
  have f0 := (HYb.out 0 _ rfl).c
  have f1 := (HYb.out 1 _ rfl).c
  have g0 := (HYc.out 0 _ rfl).c
  have g1 := (HYc.out 1 _ rfl).c
  have he := flt_eql er2 at2
  go_wp2
  go_ret
  exact ⟨rfl, HB5.out⟩
end Go.Proofs.YtidfkencjdjkbaaDoor

/-
  CHAPTER 15: a question that came in.
-/
namespace Go.Proofs.YtidfkencjdjkbaaDoor
open Go.ChangeShapes Go.WideShapes Go.ChangeAt Go.RowKit Go.Deep Sp

theorem cell_lt {w : World} {a : Addr} {v : Value} (h : w.cell? a = some v) : a.block < w.heap.size := by
  unfold World.cell? at h
  split at h
  · rename_i hb; exact (Array.getElem?_eq_some_iff.1 hb).1
  · cases h
theorem cells9 : Tryd.prog.cellsOf 9 = 1 := by kernel_rfl
theorem maxLen_eq : maxLen = 9223372036854775807 := by decide
theorem str_ok {s : ByteArray} (h : s.size ≤ maxLen) : s.data.toList.length ≤ 9223372036854775807 := by
  rw [maxLen_eq] at h
  have : s.data.toList.length = s.size := by simp
  omega
section
end
end Go.Proofs.YtidfkencjdjkbaaDoor
