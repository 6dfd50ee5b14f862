import Derived.Test.YtnoedkebmpfagaaRead
import Derived.SizedLaws
/-
  CHAPTER 16: a message that came in, with its sizes.
-/
namespace Go.Proofs.Ytnoedkebmpfagaa
open Go.ChangeShapes Go.WideShapes Go.ChangeAt Go.RowKit Go.Deep Wc

theorem bytes3 : Try.prog.bytesOf 3 = 8 := by kernel_rfl
theorem ints_of_trod_s {H : Type} {enc : TypeId × Value → H} {W : World} {n : Nat} {V : Value} {x : DataW H × List MemPlace} (h : DataW.trod enc Try.prog W 0 (fun _ => true) true n 25 [V] = some x) :
    ∃ xs : List Int, Num W W.heap.size V xs ∧ (∀ y ∈ xs, I64 y) ∧ (xs = [] ∨ ∃ e s : List (DataW H), x.1 = .slice e s ∧ e.length = xs.length) := by
  rcases open_ints Try.underlying25 Try.underlying3 cells3 h with ⟨hcs, _⟩ | ⟨a, len, cap, zs, hcs, _, hl, hmx, hz, hx, hcell, hwz⟩
  · simp at hcs
    subst hcs
    exact ⟨[], ⟨none, 0, rfl, Nat.le_refl _, by simp, fun h => absurd rfl h⟩, by intro y hy; simp at hy, .inl rfl⟩
  · simp at hcs
    subst hcs
    simp only [if_true] at hz
    have hlen : (zs.take len).length = len := by simp; omega
    rw [maxLen_eq] at hmx
    refine ⟨zs.take len, ⟨some a, cap, by rw [hlen], by omega, by omega, fun hne => ?_⟩, fun y hy => wf_i64 (hwz y (List.mem_of_mem_take hy)), .inr ⟨_, _, by rw [hx], by simp [lits]⟩⟩
    have hpos : 0 < len := by
      rcases Nat.eq_zero_or_pos len with h0 | h0
      · subst h0; simp at hne
      · exact h0
    obtain ⟨b, o, spot⟩ := a
    have h0 := hcell 0 (by omega)
    have hs : spot = none := by simpa [Addr.add] using World.cell?_spot h0
    subst hs
    have hlt : b < W.heap.size := cell_lt (a := (⟨b, o, none⟩ : Addr).add 0) h0
    refine ⟨b, o, rfl, hlt, fun i x hi => ?_⟩
    have hi2 : i < len := by rw [← hlen]; exact (List.getElem?_eq_some_iff.1 hi).1
    have h1 := hcell i (by omega)
    rw [Addr.add_lit] at h1
    rw [h1]
    rw [List.getElem?_take_of_lt hi2] at hi
    simp [List.getD, hi]
set_option maxRecDepth 100000 in
theorem msg_of_trod_s {H : Type} {enc : TypeId × Value → H} {W : World} (n : Nat) (cs : List Value) (x : DataW H × List MemPlace) (hlen : cs.length = 13) (h : DataW.trod enc Try.prog W 0 (fun _ => true) true n 27 cs = some x) (hw : ∀ k ∈ x.1.weights Try.prog 27, k ≤ reachBytes) :
    ∃ (m : Msg) (sv : Value), mv m sv = .agg cs.toArray ∧ MsgI W W.heap.size m sv ∧ m.ses.length ≤ 9007199254740992 ∧ m.pur.length ≤ 9007199254740992 ∧ m.txt.length ≤ 9007199254740992 ∧ m.vals.length ≤ 9007199254740992 := by
  obtain ⟨f0, f1, f2, f3, f4, f5, f6, f7, f8, f9, f10, hu, ⟨o0, o1, o2, o3, o4, o5, o6, o7, o8, o9, o10⟩, t0, t1, t2, t3, t4, t5, t6, t7, t8, t9, t10⟩ := field27
  obtain ⟨xs, k, hk, hxy, _, hxl, hf⟩ := DataW.trod_struct hu h
  match xs, hxl, cs, hlen with
  | [y0, y1, y2, y3, y4, y5, y6, y7, y8, y9, y10], _, [v0, v1, v2, v3, v4, v5, v6, v7, v8, v9, v10, v11, v12], _ =>
    have g0 := hf 0 f0 rfl
    have g1 := hf 1 f1 rfl
    have g2 := hf 2 f2 rfl
    have g3 := hf 3 f3 rfl
    have g4 := hf 4 f4 rfl
    have g5 := hf 5 f5 rfl
    have g6 := hf 6 f6 rfl
    have g7 := hf 7 f7 rfl
    have g8 := hf 8 f8 rfl
    have g9 := hf 9 f9 rfl
    have g10 := hf 10 f10 rfl
    rw [t0] at g0
    rw [t1] at g1
    rw [t2] at g2
    rw [t3] at g3
    rw [t4] at g4
    rw [t5] at g5
    rw [t6] at g6
    rw [t7] at g7
    rw [t8] at g8
    rw [t9] at g9
    rw [t10] at g10
    simp [o0, o1, o2, o3, o4, o5, o6, o7, o8, o9, o10, cells3, cells9, cells23, cells24, cells25] at g0 g1 g2 g3 g4 g5 g6 g7 g8 g9 g10
    obtain ⟨kd, e0, _, w0⟩ := DataW.trod_int Try.underlying3 g0
    obtain ⟨ss, e1, x1, w1⟩ := DataW.trod_string Try.underlying9 g1
    obtain ⟨nu, e2, _, w2⟩ := DataW.trod_int Try.underlying3 g2
    obtain ⟨pu, e3, x3, w3⟩ := DataW.trod_string Try.underlying9 g3
    obtain ⟨te, e4, x4, w4⟩ := DataW.trod_string Try.underlying9 g4
    obtain ⟨ru, rd, e5, e6, w5, w6⟩ := openR g5
    obtain ⟨lo, e7, _, w7⟩ := DataW.trod_int Try.underlying3 g6
    obtain ⟨hi, e8, _, w8⟩ := DataW.trod_int Try.underlying3 g7
    obtain ⟨er, e9, _, w9⟩ := DataW.trod_int Try.underlying24 g8
    obtain ⟨vs, hn, hvs, hsl⟩ := ints_of_trod_s g9
    obtain ⟨lu, ld, e11, e12, w11, w12⟩ := openR g10
    have hall : (DataW.weightsEach Try.prog [f0.type, f1.type, f2.type, f3.type, f4.type, f5.type, f6.type, f7.type, f8.type, f9.type, f10.type] [y0.1, y1.1, y2.1, y3.1, y4.1, y5.1, y6.1, y7.1, y8.1, y9.1, y10.1]).all (· ≤ reachBytes) = true := by
      refine List.all_eq_true.2 fun k hk => decide_eq_true (hw k ?_)
      rw [hxy]
      simp only [DataW.weights, hu]
      exact hk
    have r1 := sized_string hall (j := 1) (t := 9) (bytes := ss.data.toList) (by simp [t1]) (by simp [x1])
    have r3 := sized_string hall (j := 3) (t := 9) (bytes := pu.data.toList) (by simp [t3]) (by simp [x3])
    have r4 := sized_string hall (j := 4) (t := 9) (bytes := te.data.toList) (by simp [t4]) (by simp [x4])
    have r9 : vs.length ≤ 17592186044416 := by
      rcases hsl with rfl | ⟨e, s, he, hel⟩
      · simp
      · have := sized_slice hall (j := 9) (t := 25) (e := 3) (elems := e) (spare := s) (by simp [t9]) (by simp [he]) Try.underlying25
        rw [bytes3] at this
        unfold reachBytes at this
        omega
    unfold reachBytes at r1 r3 r4
    simp at e0 e1 e2 e3 e4 e7 e8 e9
    subst e0 e1 e2 e3 e4 e5 e6 e7 e8 e9 e11 e12
    exact ⟨⟨kd, ss.data.toList, nu, pu.data.toList, te.data.toList, ru, rd, lo, hi, er, vs, lu, ld⟩, v10, rfl, ⟨str_ok w1, str_ok w3, str_ok w4, hn, wf_i64 w2, w5, w6, wf_i64 w7, wf_i64 w8, wf_i64 w9, w11, w12, hvs⟩, by simpa using Nat.le_trans r1 (by decide), by simpa using Nat.le_trans r3 (by decide), by simpa using Nat.le_trans r4 (by decide), Nat.le_trans r9 (by decide)⟩
end Go.Proofs.Ytnoedkebmpfagaa
