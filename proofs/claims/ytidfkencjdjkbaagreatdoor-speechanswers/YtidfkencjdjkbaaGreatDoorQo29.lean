import Derived.Test.YtidfkencjdjkbaaGreatDoorQo19
import Derived.Test.YtidfkencjdjkbaaGreatDoorQo28
import Derived.Test.YtidfkencjdjkbaaGreatDoorRows
import Derived.Deep.SlicePairs
import Derived.Deep.Slices
import Derived.ProofKit
import Derived.OpenShut
import Derived.Lib.SmallJoins
import Derived.Carry
import Derived.Deep.Grids
import Derived.ChangeSame
/-
  CHAPTER 15: a question that came in.
-/
namespace Go.Proofs.YtidfkencjdjkbaaGreatDoor
open Go.ChangeShapes Go.WideShapes Go.ChangeAt Go.RowKit Go.Deep Sp

theorem cell_lt {w : World} {a : Addr} {v : Value} (h : w.cell? a = some v) : a.block < w.heap.size := by
  unfold World.cell? at h
  split at h
  · rename_i hb; exact (Array.getElem?_eq_some_iff.1 hb).1
  · cases h
theorem cells3 : Tryz.prog.cellsOf 3 = 1 := by kernel_rfl
theorem cells9 : Tryz.prog.cellsOf 9 = 1 := by kernel_rfl
theorem cells61 : Tryz.prog.cellsOf 81 = 3 := by kernel_rfl
theorem cells25 : Tryz.prog.cellsOf 25 = 6 := by kernel_rfl
theorem cells22 : Tryz.prog.cellsOf 22 = 1 := by kernel_rfl
theorem cells23 : Tryz.prog.cellsOf 23 = 1 := by kernel_rfl
theorem maxLen_eq : maxLen = 9223372036854775807 := by decide
theorem wf_i64 {n : Int} (h : (Lit.int .i64 n).wf = true) : -9223372036854775808 ≤ n ∧ n ≤ 9223372036854775807 := by
  simp only [Lit.wf, Bool.and_eq_true, decide_eq_true_eq] at h
  have e1 : IntKind.i64.min = -9223372036854775808 := by decide
  have e2 : IntKind.i64.max = 9223372036854775807 := by decide
  rw [e1, e2] at h
  exact h
theorem str_ok {s : ByteArray} (h : s.size ≤ maxLen) : s.data.toList.length ≤ 9223372036854775807 := by
  rw [maxLen_eq] at h
  have : s.data.toList.length = s.size := by simp
  omega
section
theorem openS3 {H : Type} {enc : TypeId × Value → H} {P : Program} {w : World} {base : Nat} {spare : Nat → Bool} {held : Bool} {e : TypeId} {f0 f1 f2 : Field} {n : Nat} {cs : List Value} {x : DataW H × List MemPlace} (he : P.underlying e = some (.struct #[f0, f1, f2])) (o0 : f0.offset = 0) (c0 : P.cellsOf f0.type = 1) (o1 : f1.offset = 1) (c1 : P.cellsOf f1.type = 1) (o2 : f2.offset = 2) (c2 : P.cellsOf f2.type = 1)
    (hlen : cs.length = 3) (h : DataW.trod enc P w base spare held n e cs = some x) : ∃ v0 v1 v2 y0 y1 y2 k, cs = [v0, v1, v2] ∧ n = k + 1 ∧ DataW.trod enc P w base spare held k f0.type [v0] = some y0 ∧ DataW.trod enc P w base spare held k f1.type [v1] = some y1 ∧ DataW.trod enc P w base spare held k f2.type [v2] = some y2 := by
  obtain ⟨xs, k, hk, hxy, _, hxl, hf⟩ := DataW.trod_struct he h
  match xs, hxl, cs, hlen with
  | [y0, y1, y2], _, [v0, v1, v2], _ =>
    have g0 := hf 0 f0 rfl
    have g1 := hf 1 f1 rfl
    have g2 := hf 2 f2 rfl
    simp [o0, o1, o2, c0, c1, c2] at g0 g1 g2
    exact ⟨v0, v1, v2, y0, y1, y2, k, rfl, hk, g0, g1, g2⟩
theorem openS6 {H : Type} {enc : TypeId × Value → H} {P : Program} {w : World} {base : Nat} {spare : Nat → Bool} {held : Bool} {e : TypeId} {f0 f1 f2 f3 f4 f5 : Field} {n : Nat} {cs : List Value} {x : DataW H × List MemPlace} (he : P.underlying e = some (.struct #[f0, f1, f2, f3, f4, f5])) (o0 : f0.offset = 0) (c0 : P.cellsOf f0.type = 1) (o1 : f1.offset = 1) (c1 : P.cellsOf f1.type = 1) (o2 : f2.offset = 2) (c2 : P.cellsOf f2.type = 1) (o3 : f3.offset = 3) (c3 : P.cellsOf f3.type = 1) (o4 : f4.offset = 4) (c4 : P.cellsOf f4.type = 1) (o5 : f5.offset = 5) (c5 : P.cellsOf f5.type = 1)
    (hlen : cs.length = 6) (h : DataW.trod enc P w base spare held n e cs = some x) : ∃ v0 v1 v2 v3 v4 v5 y0 y1 y2 y3 y4 y5 k, cs = [v0, v1, v2, v3, v4, v5] ∧ n = k + 1 ∧ DataW.trod enc P w base spare held k f0.type [v0] = some y0 ∧ DataW.trod enc P w base spare held k f1.type [v1] = some y1 ∧ DataW.trod enc P w base spare held k f2.type [v2] = some y2 ∧ DataW.trod enc P w base spare held k f3.type [v3] = some y3 ∧ DataW.trod enc P w base spare held k f4.type [v4] = some y4 ∧ DataW.trod enc P w base spare held k f5.type [v5] = some y5 ∧ x.1 = .agg [y0.1, y1.1, y2.1, y3.1, y4.1, y5.1] := by
  obtain ⟨xs, k, hk, hxy, _, hxl, hf⟩ := DataW.trod_struct he h
  match xs, hxl, cs, hlen with
  | [y0, y1, y2, y3, y4, y5], _, [v0, v1, v2, v3, v4, v5], _ =>
    have g0 := hf 0 f0 rfl
    have g1 := hf 1 f1 rfl
    have g2 := hf 2 f2 rfl
    have g3 := hf 3 f3 rfl
    have g4 := hf 4 f4 rfl
    have g5 := hf 5 f5 rfl
    simp [o0, o1, o2, o3, o4, o5, c0, c1, c2, c3, c4, c5] at g0 g1 g2 g3 g4 g5
    exact ⟨v0, v1, v2, v3, v4, v5, y0, y1, y2, y3, y4, y5, k, rfl, hk, g0, g1, g2, g3, g4, g5, by rw [hxy]; rfl⟩
end
theorem field61 : ∃ f0 f1 f2 : Field, Tryz.prog.underlying 81 = some (.struct #[f0, f1, f2]) ∧ f0.offset = 0 ∧ f1.offset = 1 ∧ f2.offset = 2 ∧ f0.type = 9 ∧ f1.type = 3 ∧ f2.type = 3 := by
  refine ⟨_, _, _, Tryz.underlying81, ?_, ?_, ?_, ?_, ?_, ?_⟩ <;> rfl
theorem field25 : ∃ f0 f1 f2 f3 f4 f5 : Field, Tryz.prog.underlying 25 = some (.struct #[f0, f1, f2, f3, f4, f5]) ∧ (f0.offset = 0 ∧ f1.offset = 1 ∧ f2.offset = 2 ∧ f3.offset = 3 ∧ f4.offset = 4 ∧ f5.offset = 5) ∧ f0.type = 3 ∧ f1.type = 9 ∧ f2.type = 3 ∧ f3.type = 3 ∧ f4.type = 22 ∧ f5.type = 23 := by
  refine ⟨_, _, _, _, _, _, Tryz.underlying25, ⟨?_, ?_, ?_, ?_, ?_, ?_⟩, ?_, ?_, ?_, ?_, ?_, ?_⟩ <;> rfl
/-- tests that came in -/
theorem tests_of_trod {H : Type} {enc : TypeId × Value → H} {W : World} {n : Nat} {V : Value} {D : DataW H} {P : List MemPlace} (h : DataW.trod enc Tryz.prog W 0 (fun _ => true) true n 22 [V] = some (D, P)) :
    ∃ l : List Tst, TI W W.heap.size l V := by
  obtain ⟨f0, f1, f2, hu, o0, o1, o2, t0, t1, t2⟩ := field61
  rcases open_slice Tryz.underlying22 h with ⟨hcs, _⟩ | ⟨a, len, cap, m, n', D0, P0, hcs, _, hl, hmx, hm, hx, hall⟩
  · simp at hcs
    subst hcs
    exact ⟨[], none, 0, rfl, Nat.le_refl _, by simp, by simp, fun h => absurd rfl h⟩
  · simp at hcs
    subst hcs
    simp only [if_true] at hm
    subst hm
    rw [maxLen_eq] at hmx
    have each : ∀ i, i < len → ∃ q : Tst, (q.1.length ≤ 9223372036854775807 ∧ (-9223372036854775808 ≤ q.2.1 ∧ q.2.1 ≤ 9223372036854775807) ∧ (-9223372036854775808 ≤ q.2.2 ∧ q.2.2 ≤ 9223372036854775807)) ∧ W.cell? (a.add (i * 3)) = some (.string (tx q.1)) ∧ W.cell? (a.add (i * 3 + 1)) = some (.int .i64 q.2.1) ∧ W.cell? (a.add (i * 3 + 2)) = some (.int .i64 q.2.2) := by
      intro i hi
      obtain ⟨cs', h1, h2⟩ := hall i (by omega)
      rw [cells61] at h1
      obtain ⟨_, hlen, hcell⟩ := World.cells?_some h1
      obtain ⟨v0, v1, v2, y0, y1, y2, k, rfl, _, g0, g1, g2⟩ := openS3 hu o0 (by rw [t0]; exact cells9) o1 (by rw [t1]; exact cells3) o2 (by rw [t2]; exact cells3) hlen h2
      rw [t0] at g0
      rw [t1] at g1
      rw [t2] at g2
      have e0 := hcell 0 (by omega)
      have e1 := hcell 1 (by omega)
      have e2 := hcell 2 (by omega)
      rw [add_add] at e0 e1 e2
      obtain ⟨s, d0, _, hw⟩ := DataW.trod_string Tryz.underlying9 g0
      obtain ⟨k1, d1, _, wf1⟩ := DataW.trod_int Tryz.underlying3 g1
      obtain ⟨k2, d2, _, wf2⟩ := DataW.trod_int Tryz.underlying3 g2
      simp at d0 d1 d2
      subst d0 d1 d2
      exact ⟨(s.data.toList, k1, k2), ⟨str_ok hw, wf_i64 wf1, wf_i64 wf2⟩, by simpa using e0, by simpa using e1, by simpa using e2⟩
    obtain ⟨q, hq⟩ := choose_lt each
    have hget : ∀ i t, ((List.range len).map fun i => q i)[i]? = some t → i < len ∧ t = q i := by
      intro i t hi
      have hlt := (List.getElem?_eq_some_iff.1 hi).1
      simp at hlt
      simp [hlt] at hi
      exact ⟨hlt, hi.symm⟩
    refine ⟨(List.range len).map fun i => q i, some a, m, by simp, by simp; omega, by simp; omega, fun t ht => ?_, fun hne => ?_⟩
    · obtain ⟨i, hi, rfl⟩ := List.mem_map.1 ht
      exact (hq i (List.mem_range.1 hi)).1
    · have hpos : 0 < len := by
        rcases Nat.eq_zero_or_pos len with h0 | h0
        · subst h0; simp at hne
        · exact h0
      obtain ⟨b, o, spot⟩ := a
      have h0 := (hq 0 (by omega)).2.1
      have hs : spot = none := by simpa [Addr.add] using World.cell?_spot h0
      subst hs
      have hlt : b < W.heap.size := cell_lt (a := (⟨b, o, none⟩ : Addr).add (0 * 3)) h0
      refine ⟨b, o, rfl, hlt, fun i t hi j u hu => ?_⟩
      obtain ⟨hi2, rfl⟩ := hget i t hi
      obtain ⟨_, h1, h2, h3⟩ := hq i hi2
      rw [Addr.add_lit] at h1 h2 h3
      match j, hu with
      | 0, hu => cases hu; exact h1
      | 1, hu => cases hu; rw [Nat.add_assoc]; exact h2
      | 2, hu => cases hu; rw [Nat.add_assoc]; exact h3
theorem bulk0 {H : Type} (l : List (DataW H)) (h : 0 < l.length) : Rows.uptoBulk l[0] ≤ Rows.uptoBulkAll l := by
  match l, h with
  | a :: r, _ => simp only [List.getElem_cons_zero, Rows.uptoBulkAll]; omega
theorem bulk1 {H : Type} (l : List (DataW H)) (h : 1 < l.length) : Rows.uptoBulk l[0] + Rows.uptoBulk l[1] ≤ Rows.uptoBulkAll l := by
  match l, h with
  | a :: b :: r, _ => simp only [List.getElem_cons_zero, List.getElem_cons_succ, Rows.uptoBulkAll]; omega
/-- a question that came in, as its six cells -/
theorem qu_of_trod {H : Type} {enc : TypeId × Value → H} {W : World} : ∀ (n : Nat) (cs : List Value) (x : DataW H × List MemPlace), cs.length = 6 → DataW.trod enc Tryz.prog W 0 (fun _ => true) true n 25 cs = some x →
    ∃ q, QI W W.heap.size q cs ∧ sizQ q ≤ Rows.uptoBulk x.1 := by
  intro n
  induction n using Nat.strongRecOn with
  | ind n ih =>
    intro cs x hlen h
    obtain ⟨f0, f1, f2, f3, f4, f5, hu, ⟨o0, o1, o2, o3, o4, o5⟩, t0, t1, t2, t3, t4, t5⟩ := field25
    obtain ⟨v0, v1, v2, v3, v4, v5, y0, y1, y2, y3, y4, y5, k, rfl, hk, g0, g1, g2, g3, g4, g5, hxx⟩ := openS6 hu o0 (by rw [t0]; exact cells3) o1 (by rw [t1]; exact cells9) o2 (by rw [t2]; exact cells3) o3 (by rw [t3]; exact cells3) o4 (by rw [t4]; exact cells22) o5 (by rw [t5]; exact cells23) hlen h
    rw [t0] at g0
    rw [t1] at g1
    rw [t2] at g2
    rw [t3] at g3
    rw [t4] at g4
    rw [t5] at g5
    obtain ⟨k0, d0, _, b0⟩ := DataW.trod_int Tryz.underlying3 g0
    obtain ⟨s1, d1, _, hw1⟩ := DataW.trod_string Tryz.underlying9 g1
    obtain ⟨k2, d2, _, b2⟩ := DataW.trod_int Tryz.underlying3 g2
    obtain ⟨k3, d3, _, b3⟩ := DataW.trod_int Tryz.underlying3 g3
    simp at d0 d1 d2 d3
    subst d0 d1 d2 d3
    have hbx : Rows.uptoBulk y5.1 + 1 ≤ Rows.uptoBulk x.1 := by rw [hxx]; simp only [Rows.uptoBulk, Rows.uptoBulkAll]; omega
    obtain ⟨wh, hwh⟩ := tests_of_trod (D := y4.1) (P := y4.2) g4
    rcases DataW.trod_slice Tryz.underlying23 g5 with ⟨hcs, _⟩ | ⟨a, len, cap, elems, rest, m, hm, hcs, hxs, _, hl, hmx, hel, hall, _⟩
    · simp at hcs
      subst hcs
      exact ⟨.node k0 s1.data.toList k2 k3 wh 0 .none .none, ⟨_, none, 0, rfl, hwh, Nat.le_refl _, by decide, str_ok hw1, wf_i64 b0, wf_i64 b2, wf_i64 b3, fun _ => rfl, fun _ => rfl, fun h => absurd h (by decide)⟩, by simp only [sizQ]; omega⟩
    · simp at hcs
      subst hcs
      rw [maxLen_eq] at hmx
      have hby : Rows.uptoBulkAll (elems.map (·.1)) + 1 ≤ Rows.uptoBulk y5.1 := by rw [hxs]; simp only [Rows.uptoBulk]; omega
      have hml : (elems.map (·.1)).length = len := by rw [List.length_map]; exact hel
      have each : ∀ i, i < len → ∃ q qs, (∀ (j : Nat) u, qs[j]? = some u → W.cell? (a.add (i * 6 + j)) = some u) ∧ QI W W.heap.size q qs ∧ ∀ h, sizQ q ≤ Rows.uptoBulk ((elems.map (·.1))[i]'h) := by
        intro i hi
        have h1 := hall i hi
        rw [cells25, List.getElem?_eq_getElem (by omega)] at h1
        obtain ⟨cs', h2, h3⟩ := Option.bind_eq_some_iff.1 h1
        obtain ⟨_, hl6, hcell⟩ := World.cells?_some h2
        obtain ⟨q, hqm, hqz⟩ := ih m (by omega) cs' _ hl6 h3
        refine ⟨q, cs', fun j u hj => ?_, hqm, fun h => by simpa using hqz⟩
        have hj6 : j < 6 := by have := (List.getElem?_eq_some_iff.1 hj).1; omega
        have := hcell j hj6
        rw [add_add, hj] at this
        exact this
      rcases Nat.eq_zero_or_pos len with h0 | h0
      · subst h0
        exact ⟨.node k0 s1.data.toList k2 k3 wh 0 .none .none, ⟨_, some a, cap, rfl, hwh, by omega, by decide, str_ok hw1, wf_i64 b0, wf_i64 b2, wf_i64 b3, fun _ => rfl, fun _ => rfl, fun h => absurd h (by decide)⟩, by simp only [sizQ]; omega⟩
      · obtain ⟨qx, xs, hc, hqx, hzx⟩ := each 0 h0
        obtain ⟨b, o, spot⟩ := a
        obtain ⟨x0, hx0⟩ : ∃ x0, xs[0]? = some x0 := by
          cases qx with
          | none => exact hqx.elim
          | node => obtain ⟨_, _, _, rfl, _⟩ := hqx; exact ⟨_, rfl⟩
        have e0 := hc 0 x0 hx0
        have hs : spot = none := by simpa [Addr.add] using World.cell?_spot e0
        subst hs
        have hlt : b < W.heap.size := cell_lt (a := (⟨b, o, none⟩ : Addr).add (0 * 6 + 0)) e0
        have a0 : ∀ (j : Nat) u, xs[j]? = some u → W.cell? ⟨b, o + j, none⟩ = some u := fun j u hu => by
          have := hc j u hu
          rw [Addr.add_lit] at this
          simpa using this
        by_cases h1 : len = 1
        · subst h1
          exact ⟨.node k0 s1.data.toList k2 k3 wh 1 qx .none, ⟨_, some ⟨b, o, none⟩, cap, rfl, hwh, hl, by decide, str_ok hw1, wf_i64 b0, wf_i64 b2, wf_i64 b3, fun h => absurd h (by decide), fun _ => rfl, fun _ _ => ⟨b, o, rfl, hlt, ⟨xs, hqx, a0⟩, fun h => absurd h (by decide)⟩⟩, by have h1 := hzx (by omega); have h2 := bulk0 (elems.map (·.1)) (by omega); simp only [sizQ]; omega⟩
        · obtain ⟨qy, ys, hcy, hqy, hzy⟩ := each 1 (by omega)
          have a1 : ∀ (j : Nat) u, ys[j]? = some u → W.cell? ⟨b, o + 6 + j, none⟩ = some u := fun j u hu => by
            have := hcy j u hu
            rw [Addr.add_lit] at this
            rw [Nat.add_assoc]
            simpa using this
          exact ⟨.node k0 s1.data.toList k2 k3 wh len qx qy, ⟨_, some ⟨b, o, none⟩, cap, rfl, hwh, hl, by omega, str_ok hw1, wf_i64 b0, wf_i64 b2, wf_i64 b3, fun h => by omega, fun h => by omega, fun _ _ => ⟨b, o, rfl, hlt, ⟨xs, hqx, a0⟩, fun _ => ⟨ys, hqy, a1⟩⟩⟩, by have h1 := hzx (by omega); have h3 := hzy (by omega); have h2 := bulk1 (elems.map (·.1)) (by omega); simp only [sizQ]; omega⟩
end Go.Proofs.YtidfkencjdjkbaaGreatDoor
