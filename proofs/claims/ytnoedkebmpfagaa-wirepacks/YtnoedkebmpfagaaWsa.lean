import Derived.Test.YtnoedkebmpfagaaWwy
import Derived.Laws.StructEq
/-
  The reference's Same, of two messages that are the same.
-/
namespace Go.Proofs.Ytnoedkebmpfagaa
open Go.RowKit Wc

theorem below_drewN {h : Nat} {a b : World} (hb : Below h a b) (q : Nat) : Below h a (b.drewN q) := by
  induction q generalizing b with
  | zero => exact hb
  | succ q ih => exact (ih hb).drew
theorem nes (x : By) (u : World) : (binOp .neq 9 (.string (tx x)) (.string (tx x))).run Try.prog u = .ok (.bool false) u := by
  simp only [binOp, Op.stringOp]
  simp
set_option maxHeartbeats 1000000 in
set_option maxRecDepth 100000 in
theorem same_any (m : Msg) (sv tv : Value) (w : World) (h1 : Num w w.heap.size sv m.vals) (h2 : Num w w.heap.size tv m.vals) :
    Calls Try.prog 11 #[mv m sv, mv m tv] w fun e w' => e = .returned (.bool true) ∧ Below w.heap.size w w' := by
  obtain ⟨kd, ss, nu, pu, te, ru, rd, lo, hg, er, vs, lu, ld⟩ := m
  obtain ⟨sa, sc, rfl, hsc, hsl⟩ := h1.slice
  obtain ⟨ta, tc, rfl, htc, -⟩ := h2.slice
  have H1 : Hid (Num w w.heap.size (.slice sa vs.length sc) vs) := h1
  have H2 : Hid (Num w w.heap.size (.slice ta vs.length tc) vs) := h2
  obtain ⟨W, hW⟩ : ∃ W, w.alloc (.cells #[.int .i64 kd, .string (tx ss), .int .i64 nu, .string (tx pu), .string (tx te), .int .i64 ru, .int .i64 rd, .int .i64 lo, .int .i64 hg, .int .i64 er, .slice sa vs.length sc, .int .i64 lu, .int .i64 ld] 27) = W := ⟨_, rfl⟩
  have bW : Below w.heap.size w W := by rw [← hW]; exact ba _ _
  have hsW : W.heap.size = w.heap.size + 1 := by rw [← hW]; simp
  have hB : Bx W w.heap.size [.int .i64 kd, .string (tx ss), .int .i64 nu, .string (tx pu), .string (tx te), .int .i64 ru, .int .i64 rd, .int .i64 lo, .int .i64 hg, .int .i64 er, .slice sa vs.length sc, .int .i64 lu, .int .i64 ld] := by rw [← hW]; exact Bx.new w _ 27 rfl
  obtain ⟨X, hX⟩ : ∃ X, W.alloc (.cells #[.int .i64 kd, .string (tx ss), .int .i64 nu, .string (tx pu), .string (tx te), .int .i64 ru, .int .i64 rd, .int .i64 lo, .int .i64 hg, .int .i64 er, .slice ta vs.length tc, .int .i64 lu, .int .i64 ld] 27) = X := ⟨_, rfl⟩
  have bX : Below w.heap.size w X := by rw [← hX]; exact bal bW _
  have hC : Bx X W.heap.size [.int .i64 kd, .string (tx ss), .int .i64 nu, .string (tx pu), .string (tx te), .int .i64 ru, .int .i64 rd, .int .i64 lo, .int .i64 hg, .int .i64 er, .slice ta vs.length tc, .int .i64 lu, .int .i64 ld] := by rw [← hX]; exact Bx.new W _ 27 rfl
  have hD : Bx X w.heap.size [.int .i64 kd, .string (tx ss), .int .i64 nu, .string (tx pu), .string (tx te), .int .i64 ru, .int .i64 rd, .int .i64 lo, .int .i64 hg, .int .i64 er, .slice sa vs.length sc, .int .i64 lu, .int .i64 ld] := hB.at (by rw [← hX]; exact ba _ _)
  have HX : Hid (Below w.heap.size w X) := bX
  have c0 := (hD 0 _ rfl).c
  have d0 := (hC 0 _ rfl).c
  have c1 := (hD 1 _ rfl).c
  have d1 := (hC 1 _ rfl).c
  have c2 := (hD 2 _ rfl).c
  have d2 := (hC 2 _ rfl).c
  have c3 := (hD 3 _ rfl).c
  have d3 := (hC 3 _ rfl).c
  have c4 := (hD 4 _ rfl).c
  have d4 := (hC 4 _ rfl).c
  have c5 := (hD 5 _ rfl).c
  have d5 := (hC 5 _ rfl).c
  have c6 := (hD 6 _ rfl).c
  have d6 := (hC 6 _ rfl).c
  have c7 := (hD 7 _ rfl).c
  have d7 := (hC 7 _ rfl).c
  have c8 := (hD 8 _ rfl).c
  have d8 := (hC 8 _ rfl).c
  have c9 := (hD 9 _ rfl).c
  have d9 := (hC 9 _ rfl).c
  have c10 := (hD 10 _ rfl).c
  have d10 := (hC 10 _ rfl).c
  have c11 := (hD 11 _ rfl).c
  have d11 := (hC 11 _ rfl).c
  have c12 := (hD 12 _ rfl).c
  have d12 := (hC 12 _ rfl).c
  have e1 := nes ss
  have e2 := nes pu
  have e3 := nes te
  clear hB hC hD bW bX h1 h2 hsW
  go_enter Try.func11, Try.ntmps11
  go_wp2_with fail
  go_loopw [86] (fun iv wr => ∃ (i : Nat) (q : Nat), iv = .int .i64 (i : Int) ∧ i ≤ vs.length ∧ wr = X.drewN q) (fun iv _ => vs.length - (intOf iv).toNat)
  case atStart => exact ⟨0, 0, rfl, Nat.zero_le _, rfl⟩
  case round =>
    obtain ⟨i, q, rfl, hi, rfl⟩ := hrel
    by_cases z : i < vs.length
    · have z1 : (i : Int) < (vs.length : Int) := by omega
      obtain ⟨b1, o1, c1', x, f1, _, _, hx, g1⟩ := (H1.out.keep HX.out).get (i := i) z
      simp only [Value.slice.injEq] at f1
      obtain ⟨rfl, -, rfl⟩ := f1
      obtain ⟨b2, o2, c2', y, f2, _, _, hy, g2⟩ := (H2.out.keep HX.out).get (i := i) z
      simp only [Value.slice.injEq] at f2
      obtain ⟨rfl, -, rfl⟩ := f2
      obtain rfl : x = y := Option.some.inj (hx.symm.trans hy)
      clear hx hy
      go_wp2_with fail
      go_quiet (fail)
      go_wp2
      go_roundw
      case rel => exact ⟨i + 1, _, by go_num, z, rfl⟩
      case measure => simp [intOf]; omega
    · obtain rfl : i = vs.length := by omega
      have z1 : ¬ (vs.length : Int) < (vs.length : Int) := by omega
      go_wp2
      go_ret
      exact ⟨rfl, below_drewN HX.out q⟩
end Go.Proofs.Ytnoedkebmpfagaa
