import Derived.Test.YtpmioeamdhdokaaGreatQr07
import Derived.ChangeSame
namespace Go.Proofs.YtpmioeamdhdokaaGreat.K
open Go.ChangeShapes Go.WideShapes Go.ChangeAt Go.RowKit Go.Proofs.YtpmioeamdhdokaaGreat.K.Ds Go.Deep

theorem cells69t : Tryz.prog.cellsOf 69 = 1 := by kernel_rfl
theorem cells37t : Tryz.prog.cellsOf 37 = 2 := by kernel_rfl
theorem cells71t : Tryz.prog.cellsOf 71 = 11 := by kernel_rfl
theorem field37t : ∃ f0 f1 : Field, Tryz.prog.underlying 37 = some (.struct #[f0, f1]) ∧ f0.offset = 0 ∧ f1.offset = 1 ∧ f0.type = 3 ∧ f1.type = 3 := by
  refine ⟨_, _, Tryz.underlying37, ?_, ?_, ?_, ?_⟩ <;> rfl
theorem field71t : ∃ f0 f1 f2 f3 f4 : Field, Tryz.prog.underlying 71 = some (.struct #[f0, f1, f2, f3, f4]) ∧ (f0.offset = 0 ∧ f1.offset = 6 ∧ f2.offset = 8 ∧ f3.offset = 9 ∧ f4.offset = 10) ∧ f0.type = 52 ∧ f1.type = 37 ∧ f2.type = 3 ∧ f3.type = 3 ∧ f4.type = 69 := by
  refine ⟨_, _, _, _, _, Tryz.underlying71, ⟨?_, ?_, ?_, ?_, ?_⟩, ?_, ?_, ?_, ?_, ?_⟩ <;> rfl
/-- two cells -/
theorem openT2 {H : Type} {enc : TypeId × Value → H} {P : Program} {w : World} {base : Nat} {spare : Nat → Bool} {held : Bool} {e : TypeId} {f0 f1 : Field} {n : Nat} {cs : List Value} {x : DataW H × List MemPlace} (he : P.underlying e = some (.struct #[f0, f1])) (o0 : f0.offset = 0) (c0 : P.cellsOf f0.type = 1) (o1 : f1.offset = 1) (c1 : P.cellsOf f1.type = 1)
    (hlen : cs.length = 2) (h : DataW.trod enc P w base spare held n e cs = some x) : ∃ v0 v1 y0 y1 k, cs = [v0, v1] ∧ n = k + 1 ∧ DataW.trod enc P w base spare held k f0.type [v0] = some y0 ∧ DataW.trod enc P w base spare held k f1.type [v1] = some y1 := by
  obtain ⟨xs, k, hk, hxy, _, hxl, hf⟩ := DataW.trod_struct he h
  match xs, hxl, cs, hlen with
  | [y0, y1], _, [v0, v1], _ =>
    have g0 := hf 0 f0 rfl
    have g1 := hf 1 f1 rfl
    simp [o0, o1, c0, c1] at g0 g1
    exact ⟨v0, v1, y0, y1, k, rfl, hk, g0, g1⟩
set_option maxRecDepth 100000 in
/-- a turn that came in, as its eleven cells -/
theorem turn_of_trod {H : Type} {enc : TypeId × Value → H} {W : World} (n : Nat) (cs : List Value) (x : DataW H × List MemPlace) (hlen : cs.length = 11) (h : DataW.trod enc Tryz.prog W 0 (fun _ => true) true n 71 cs = some x) :
    ∃ (v0 v1 v2 v3 v4 v5 : Value) (q : Qu) (u d lo hi : Int) (na : Option Addr) (nn nc : Nat), cs = [v0, v1, v2, v3, v4, v5, .int .i64 u, .int .i64 d, .int .i64 lo, .int .i64 hi, .slice na nn nc] ∧ Qm W W.heap.size q v0 v1 v2 v3 v4 v5 ∧ I64 lo ∧ I64 hi := by
  obtain ⟨f0, f1, f2, f3, f4, hu, ⟨o0, o1, o2, o3, o4⟩, t0, t1, t2, t3, t4⟩ := field71t
  obtain ⟨g0', g1', hgu, p0, p1, s0, s1⟩ := field37t
  obtain ⟨xs, k, hk, hxy, _, hxl, hf⟩ := DataW.trod_struct hu h
  match xs, hxl, cs, hlen with
  | [y0, y1, y2, y3, y4], _, [v0, v1, v2, v3, v4, v5, v6, v7, v8, v9, v10], _ =>
    have g0 := hf 0 f0 rfl
    have g1 := hf 1 f1 rfl
    have g2 := hf 2 f2 rfl
    have g3 := hf 3 f3 rfl
    have g4 := hf 4 f4 rfl
    rw [t0] at g0
    rw [t1] at g1
    rw [t2] at g2
    rw [t3] at g3
    rw [t4] at g4
    simp [o0, o1, o2, o3, o4, cells6', cells37t, cells3, cells69t] at g0 g1 g2 g3 g4
    obtain ⟨q, w0, w1, w2, w3, w4, w5, he, hq⟩ := qu_of_trod k _ _ rfl g0
    simp only [List.cons.injEq, and_true] at he
    obtain ⟨rfl, rfl, rfl, rfl, rfl, rfl⟩ := he
    obtain ⟨z0, z1, r0, r1, k2, he, _, q0, q1⟩ := openT2 hgu p0 (by rw [s0]; exact cells3) p1 (by rw [s1]; exact cells3) rfl g1
    simp only [List.cons.injEq, and_true] at he
    obtain ⟨rfl, rfl⟩ := he
    rw [s0] at q0
    rw [s1] at q1
    obtain ⟨u, d6, _, _⟩ := DataW.trod_int Tryz.underlying3 q0
    obtain ⟨d, d7, _, _⟩ := DataW.trod_int Tryz.underlying3 q1
    obtain ⟨lo, d8, _, b8⟩ := DataW.trod_int Tryz.underlying3 g2
    obtain ⟨hi, d9, _, b9⟩ := DataW.trod_int Tryz.underlying3 g3
    simp at d6 d7 d8 d9
    subst d6 d7 d8 d9
    obtain ⟨na, nn, nc, rfl⟩ : ∃ na nn nc, v10 = .slice na nn nc := by
      rcases open_slice Tryz.underlying69 (show _ = some (y4.1, y4.2) from g4) with ⟨hcs, _⟩ | ⟨a, len, cap, m, n', D0, P0, hcs, _⟩
      · simp at hcs
        exact ⟨_, _, _, hcs⟩
      · simp at hcs
        exact ⟨_, _, _, hcs⟩
    exact ⟨v0, v1, v2, v3, v4, v5, q, u, d, lo, hi, na, nn, nc, rfl, hq, bounds_i64 b8, bounds_i64 b9⟩
end Go.Proofs.YtpmioeamdhdokaaGreat.K
