import Derived.Test.YtejeiahbnnechaaRpt
import Derived.Laws.StructEq
namespace Go.Proofs.Ytejeiahbnnechaa
open Go.RowKit Go.Proofs.Ytejeiahbnnechaa.Ds

theorem bnd_struct : Try.prog.underlying 28 = some (.struct (Try.prog.fieldsOf 28)) := by rw [Program.fieldsOf, Try.underlying28]
theorem bnd_held : Try.prog.stoodInHeld 28 = false := by kernel_rfl
theorem bnd_guard : Try.prog.eqGuardType Try.prog.depth 28 = false := by kernel_rfl
theorem bnd_fields : ∃ f0 f1 f2 : Field, (Try.prog.fieldsOf 28).toList = [f0, f1, f2] ∧ f0.name ≠ "_" ∧ f1.name ≠ "_" ∧ f2.name ≠ "_" ∧ f0.type = 3 ∧ f1.type = 3 ∧ f2.type = 3 ∧ f0.offset = 0 ∧ f1.offset = 1 ∧ f2.offset = 2 := by
  refine ⟨_, _, _, by rw [Program.fieldsOf, Try.underlying28], by decide, by decide, by decide, rfl, rfl, rfl, rfl, rfl, rfl⟩
theorem bnd_neq (b1 b2 b3 : Int) (u : World) : (binOp .neq 28 (.agg #[.int .i64 b1, .int .i64 b2, .int .i64 b3]) (.agg #[.int .i64 b1, .int .i64 b2, .int .i64 b3])).run Try.prog u = .ok (.bool false) u := by
  obtain ⟨f0, f1, f2, hf, n0, n1, n2, t0, t1, t2, o0, o1, o2⟩ := bnd_fields
  rw [run_neq_struct, run_equalIn_struct u 9999 28 _ _ bnd_struct bnd_held, hf]
  simp [Op.eqFields, n0, n1, n2, t0, t1, t2, o0, o1, o2, go_sem, Try.underlying3]

set_option maxHeartbeats 2000000 in
set_option maxRecDepth 100000 in
theorem askTypes_walk (B : Nat) (lv v0 v1 v2 v3 v4 v5 : Value) (s : ByteArray) (l : List Col) (q : Qu) (w : World) (hB : B ≤ w.heap.size) (hp : Cols w B lv l) (hq : Qm w B q v0 v1 v2 v3 v4 v5) :
    Calls Try.prog 3 #[lv, .agg #[v0, v1, v2, v3, v4, v5], .string s] w fun e w' => e = .returned (.bool true) ∧ Below w.heap.size w w' := by
  obtain ⟨b1, b2, b3, te, hty⟩ : ∃ b1 b2 b3 te, typV (typ l q) = ((b1, b2, b3), te) := ⟨_, _, _, _, rfl⟩
  obtain ⟨z, er, hpr⟩ : ∃ z er, prtV (prt l q s) = (z, er) := ⟨_, _, rfl⟩
  have HP : Hid (Cols w B lv l) := hp
  have HQ : Hid (Qm w B q v0 v1 v2 v3 v4 v5) := hq
  have HTY : Hid (typV (typ l q) = ((b1, b2, b3), te)) := hty
  have HPR : Hid (prtV (prt l q s) = (z, er)) := hpr
  obtain ⟨la, lc, rfl, _⟩ := hp.slice
  obtain ⟨kk, kc, kl, kh, ka, kn', kd, kb, km, kp, rfl, rfl, rfl, rfl, rfl, rfl⟩ := hq.shape
  have hb0 := ba w (.cells #[.int .i64 kk, .string kc, .int .i64 kl, .int .i64 kh, .slice ka kn' kd, .slice kb km kp] 26)
  have bx0 := Bx.new w _ rfl (.int .i64 kk) (.string kc) (.int .i64 kl) (.int .i64 kh) (.slice ka kn' kd) (.slice kb km kp)
  have k1 := type_any l q _ B _ _ _ _ _ _ _ b1 b2 b3 te (Nat.le_trans hB hb0.size) (hp.at hB hb0) (hq.at hB hb0) hty
  clear hp hq hty hpr
  go_enter Try.func3, Try.ntmps3
  go_wp2_with fail
  refine k1.mono ?_
  rintro e w1 ⟨rfl, hb1⟩
  clear k1
  have hb2 := bal hb1 (.cells #[.int .i64 b1, .int .i64 b2, .int .i64 b3] 28)
  have hbw := bt hb0 hb2
  have bx1 := bx0.at hb2
  have T1 : T3 (w1.alloc (.cells #[.int .i64 b1, .int .i64 b2, .int .i64 b3] 28)) w1.heap.size (b1, b2, b3) := T3.new _ _ rfl _ _ _
  obtain ⟨W1, hW1⟩ : ∃ W1, w1.alloc (.cells #[.int .i64 b1, .int .i64 b2, .int .i64 b3] 28) = W1 := ⟨_, rfl⟩
  have HW1 : Hid (w1.alloc (.cells #[.int .i64 b1, .int .i64 b2, .int .i64 b3] 28) = W1) := hW1
  have m0 := bx1.a0.c
  have m1 := bx1.a1.c
  have m2 := bx1.a2.c
  have m3 := bx1.a3.c
  have m4 := bx1.a4.c
  have m5 := bx1.a5.c
  have k2 := rtype_any l q _ B _ _ _ _ _ _ _ b1 b2 b3 te (Nat.le_trans hB hbw.size) (HP.out.at hB hbw) (HQ.out.at hB hbw) HTY.out
  clear hb0 bx0 hb1 hb2 hW1
  go_wp2_with fail
  refine k2.mono ?_
  rintro e w2 ⟨rfl, hb2⟩
  clear k2 m0 m1 m2 m3 m4 m5
  have hb3 := bal hb2 (.cells #[.int .i64 b1, .int .i64 b2, .int .i64 b3] 28)
  have hbw3 := bt hbw hb3
  have bx3 := bx1.at hb3
  have T13 := T1.at hb3
  have T23 : T3 (w2.alloc (.cells #[.int .i64 b1, .int .i64 b2, .int .i64 b3] 28)) w2.heap.size (b1, b2, b3) := T3.new _ _ rfl _ _ _
  have m0 := bx3.a0.c
  have m1 := bx3.a1.c
  have m2 := bx3.a2.c
  have m3 := bx3.a3.c
  have m4 := bx3.a4.c
  have m5 := bx3.a5.c
  have x0 := T13.c0.c
  have x1 := T13.c1.c
  have x2 := T13.c2.c
  have k3 := part_any l q s _ B _ _ _ _ _ _ _ z er (Nat.le_trans hB hbw3.size) (HP.out.at hB hbw3) (HQ.out.at hB hbw3) HPR.out
  have hg := bnd_guard
  have hq := bnd_neq b1 b2 b3
  clear hb2 hb3 T13 T23 bx1 T1 hbw
  go_wp2_with fail
  refine k3.mono ?_
  rintro e w4 ⟨rfl, hb4⟩
  clear k3 m0 m1 m2 m3 m4 m5 x0 x1 x2
  have hbw4 := bt hbw3 hb4
  have bx4 := bx3.at hb4
  have m0 := bx4.a0.c
  have m1 := bx4.a1.c
  have m2 := bx4.a2.c
  have m3 := bx4.a3.c
  have m4 := bx4.a4.c
  have m5 := bx4.a5.c
  have k4 := rpart_any l q s _ B _ _ _ _ _ _ _ z er (Nat.le_trans hB hbw4.size) (HP.out.at hB hbw4) (HQ.out.at hB hbw4) HPR.out
  clear hb4 bx3 bx4
  go_wp2_with fail
  refine k4.mono ?_
  rintro e w5 ⟨rfl, hb5⟩
  have hbw5 := bt hbw4 hb5
  clear k4
  go_wp2
  go_ret
  exact ⟨rfl, hbw5⟩
end Go.Proofs.Ytejeiahbnnechaa
