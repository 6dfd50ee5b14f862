import Derived.Test.YtnoedkebmpfagaaWwy
import Derived.Deep.SlicePairs
import Derived.Deep.Slices
import Derived.ProofKit
import Derived.OpenShut
import Derived.Lib.SmallJoins
import Derived.Carry
import Derived.Deep.Grids
import Derived.ChangeSame
/-
  CHAPTER 16: a message that came in.
-/
namespace Go.Proofs.Ytnoedkebmpfagaa
open Go.ChangeShapes Go.WideShapes Go.ChangeAt Go.RowKit Go.Deep Wc

theorem cell_lt {w : World} {a : Addr} {v : Value} (h : w.cell? a = some v) : a.block < w.heap.size := by
  unfold World.cell? at h
  split at h
  · rename_i hb; exact (Array.getElem?_eq_some_iff.1 hb).1
  · cases h
theorem cells3 : Try.prog.cellsOf 3 = 1 := by kernel_rfl
theorem cells4 : Try.prog.cellsOf 4 = 1 := by kernel_rfl
theorem cells9 : Try.prog.cellsOf 9 = 1 := by kernel_rfl
theorem cells23 : Try.prog.cellsOf 23 = 2 := by kernel_rfl
theorem cells24 : Try.prog.cellsOf 24 = 1 := by kernel_rfl
theorem cells25 : Try.prog.cellsOf 25 = 1 := by kernel_rfl
theorem cells27 : Try.prog.cellsOf 27 = 13 := by kernel_rfl
theorem maxLen_eq : maxLen = 9223372036854775807 := by decide
theorem wf_i64 {n : Int} (h : (Lit.int .i64 n).wf = true) : I64 n := by
  simp only [Lit.wf, Bool.and_eq_true, decide_eq_true_eq] at h
  have e1 : IntKind.i64.min = -9223372036854775808 := by decide
  have e2 : IntKind.i64.max = 9223372036854775807 := by decide
  rw [e1, e2] at h
  exact h
/-- a list of numbers that came in -/
theorem ints_of_trod {H : Type} {enc : TypeId × Value → H} {W : World} {n : Nat} {V : Value} {x : DataW H × List MemPlace} (h : DataW.trod enc Try.prog W 0 (fun _ => true) true n 25 [V] = some x) :
    ∃ xs, Num W W.heap.size V xs ∧ ∀ y ∈ xs, I64 y := by
  rcases open_ints Try.underlying25 Try.underlying3 cells3 h with ⟨hcs, _⟩ | ⟨a, len, cap, zs, hcs, _, hl, hmx, hz, hx, hcell, hwz⟩
  · simp at hcs
    subst hcs
    exact ⟨[], ⟨none, 0, rfl, Nat.le_refl _, by simp, fun h => absurd rfl h⟩, by intro y hy; simp at hy⟩
  · simp at hcs
    subst hcs
    simp only [if_true] at hz
    have hlen : (zs.take len).length = len := by simp; omega
    rw [maxLen_eq] at hmx
    refine ⟨zs.take len, ⟨some a, cap, by rw [hlen], by omega, by omega, fun hne => ?_⟩, fun y hy => wf_i64 (hwz y (List.mem_of_mem_take hy))⟩
    have hpos : 0 < len := by
      rcases Nat.eq_zero_or_pos len with h0 | h0
      · subst h0; simp at hne
      · exact h0
    obtain ⟨b, o, spot⟩ := a
    have h0 := hcell 0 (by omega)
    have hs : spot = none := by simpa [Addr.add] using World.cell?_spot h0
    subst hs
    have hlt : b < W.heap.size := cell_lt (a := (⟨b, o, none⟩ : Addr).add 0) h0
    refine ⟨b, o, rfl, hlt, fun i x hi => ?_⟩
    have hi2 : i < len := by rw [← hlen]; exact (List.getElem?_eq_some_iff.1 hi).1
    have h1 := hcell i (by omega)
    rw [Addr.add_lit] at h1
    rw [h1]
    rw [List.getElem?_take_of_lt hi2] at hi
    simp [List.getD, hi]
theorem field23 : ∃ f0 f1 : Field, Try.prog.underlying 23 = some (.struct #[f0, f1]) ∧ f0.offset = 0 ∧ f1.offset = 1 ∧ f0.type = 3 ∧ f1.type = 3 := by
  refine ⟨_, _, Try.underlying23, ?_, ?_, ?_, ?_⟩ <;> rfl
theorem field27 : ∃ f0 f1 f2 f3 f4 f5 f6 f7 f8 f9 f10 : Field, Try.prog.underlying 27 = some (.struct #[f0, f1, f2, f3, f4, f5, f6, f7, f8, f9, f10]) ∧ (f0.offset = 0 ∧ f1.offset = 1 ∧ f2.offset = 2 ∧ f3.offset = 3 ∧ f4.offset = 4 ∧ f5.offset = 5 ∧ f6.offset = 7 ∧ f7.offset = 8 ∧ f8.offset = 9 ∧ f9.offset = 10 ∧ f10.offset = 11) ∧ f0.type = 3 ∧ f1.type = 9 ∧ f2.type = 3 ∧ f3.type = 9 ∧ f4.type = 9 ∧ f5.type = 23 ∧ f6.type = 3 ∧ f7.type = 3 ∧ f8.type = 24 ∧ f9.type = 25 ∧ f10.type = 23 := by
  refine ⟨_, _, _, _, _, _, _, _, _, _, _, Try.underlying27, ⟨?_, ?_, ?_, ?_, ?_, ?_, ?_, ?_, ?_, ?_, ?_⟩, ?_, ?_, ?_, ?_, ?_, ?_, ?_, ?_, ?_, ?_, ?_⟩ <;> rfl
theorem openR {H : Type} {enc : TypeId × Value → H} {W : World} {n : Nat} {v0 v1 : Value} {x : DataW H × List MemPlace} (h : DataW.trod enc Try.prog W 0 (fun _ => true) true n 23 [v0, v1] = some x) : ∃ u d, v0 = .int .i64 u ∧ v1 = .int .i64 d ∧ I64 u ∧ I64 d := by
  obtain ⟨f0, f1, hu, o0, o1, t0, t1⟩ := field23
  obtain ⟨xs, k, hk, hxy, _, hxl, hf⟩ := DataW.trod_struct hu h
  match xs, hxl with
  | [y0, y1], _ =>
    have g0 := hf 0 f0 rfl
    have g1 := hf 1 f1 rfl
    rw [t0] at g0
    rw [t1] at g1
    simp [o0, o1, cells3] at g0 g1
    obtain ⟨u, d6, _, w6⟩ := DataW.trod_int Try.underlying3 g0
    obtain ⟨d, d7, _, w7⟩ := DataW.trod_int Try.underlying3 g1
    simp at d6 d7
    exact ⟨u, d, d6, d7, wf_i64 w6, wf_i64 w7⟩
theorem str_ok {s : ByteArray} (h : s.size ≤ maxLen) : s.data.toList.length ≤ 9223372036854775807 := by
  rw [maxLen_eq] at h
  have : s.data.toList.length = s.size := by simp
  omega
set_option maxRecDepth 100000 in
theorem msg_of_trod {H : Type} {enc : TypeId × Value → H} {W : World} (n : Nat) (cs : List Value) (x : DataW H × List MemPlace) (hlen : cs.length = 13) (h : DataW.trod enc Try.prog W 0 (fun _ => true) true n 27 cs = some x) :
    ∃ (m : Msg) (sv : Value), mv m sv = .agg cs.toArray ∧ MsgI W W.heap.size m sv := by
  obtain ⟨f0, f1, f2, f3, f4, f5, f6, f7, f8, f9, f10, hu, ⟨o0, o1, o2, o3, o4, o5, o6, o7, o8, o9, o10⟩, t0, t1, t2, t3, t4, t5, t6, t7, t8, t9, t10⟩ := field27
  obtain ⟨xs, k, hk, hxy, _, hxl, hf⟩ := DataW.trod_struct hu h
  match xs, hxl, cs, hlen with
  | [y0, y1, y2, y3, y4, y5, y6, y7, y8, y9, y10], _, [v0, v1, v2, v3, v4, v5, v6, v7, v8, v9, v10, v11, v12], _ =>
    have g0 := hf 0 f0 rfl
    have g1 := hf 1 f1 rfl
    have g2 := hf 2 f2 rfl
    have g3 := hf 3 f3 rfl
    have g4 := hf 4 f4 rfl
    have g5 := hf 5 f5 rfl
    have g6 := hf 6 f6 rfl
    have g7 := hf 7 f7 rfl
    have g8 := hf 8 f8 rfl
    have g9 := hf 9 f9 rfl
    have g10 := hf 10 f10 rfl
    rw [t0] at g0
    rw [t1] at g1
    rw [t2] at g2
    rw [t3] at g3
    rw [t4] at g4
    rw [t5] at g5
    rw [t6] at g6
    rw [t7] at g7
    rw [t8] at g8
    rw [t9] at g9
    rw [t10] at g10
    simp [o0, o1, o2, o3, o4, o5, o6, o7, o8, o9, o10, cells3, cells9, cells23, cells24, cells25] at g0 g1 g2 g3 g4 g5 g6 g7 g8 g9 g10
    obtain ⟨kd, e0, _, w0⟩ := DataW.trod_int Try.underlying3 g0
    obtain ⟨ss, e1, _, w1⟩ := DataW.trod_string Try.underlying9 g1
    obtain ⟨nu, e2, _, w2⟩ := DataW.trod_int Try.underlying3 g2
    obtain ⟨pu, e3, _, w3⟩ := DataW.trod_string Try.underlying9 g3
    obtain ⟨te, e4, _, w4⟩ := DataW.trod_string Try.underlying9 g4
    obtain ⟨ru, rd, e5, e6, w5, w6⟩ := openR g5
    obtain ⟨lo, e7, _, w7⟩ := DataW.trod_int Try.underlying3 g6
    obtain ⟨hi, e8, _, w8⟩ := DataW.trod_int Try.underlying3 g7
    obtain ⟨er, e9, _, w9⟩ := DataW.trod_int Try.underlying24 g8
    obtain ⟨vs, hn, hvs⟩ := ints_of_trod g9
    obtain ⟨lu, ld, e11, e12, w11, w12⟩ := openR g10
    simp at e0 e1 e2 e3 e4 e7 e8 e9
    subst e0 e1 e2 e3 e4 e5 e6 e7 e8 e9 e11 e12
    exact ⟨⟨kd, ss.data.toList, nu, pu.data.toList, te.data.toList, ru, rd, lo, hi, er, vs, lu, ld⟩, v10, rfl, str_ok w1, str_ok w3, str_ok w4, hn, wf_i64 w2, w5, w6, wf_i64 w7, wf_i64 w8, wf_i64 w9, w11, w12, hvs⟩
end Go.Proofs.Ytnoedkebmpfagaa
