import Derived.Test.YtdcdjjemndadaaaRead
import Derived.Test.YtdcdjjemndadaaaBnd
namespace Go.Proofs.Ytdcdjjemndadaaa
open Go.ChangeShapes Go.WideShapes Go.ChangeAt Go.RowKit Go.Proofs.Ytdcdjjemndadaaa.Ds Go.Deep

theorem cells23 : Try.prog.cellsOf 23 = 1 := by kernel_rfl
theorem cells52 : Try.prog.cellsOf 52 = 2 := by kernel_rfl
theorem field52 : ∃ f0 f1 : Field, Try.prog.underlying 52 = some (.struct #[f0, f1]) ∧ f0.offset = 0 ∧ f1.offset = 1 ∧ f0.type = 24 ∧ f1.type = 23 := by
  refine ⟨_, _, Try.underlying52, ?_, ?_, ?_, ?_⟩ <;> rfl

/-- a list of what comes behind, that came in -/
theorem follows_of_trod {H : Type} {enc : TypeId × Value → H} {W : World} {n t : Nat} {V : Value} {D : DataW H} {P : List MemPlace} (ht : Try.prog.underlying t = some (.slice 52)) (h : DataW.trod enc Try.prog W 0 (fun _ => true) true n t [V] = some (D, P)) (hb : Rows.uptoBulk D ≤ 1048576) :
    ∃ ps, Fws W W.heap.size V ps := by
  obtain ⟨f0, f1, hu, o0, o1, t0, t1⟩ := field52
  rcases open_slice_pairs ht hu cells52 o0 o1 (by rw [t0]; exact cells24) (by rw [t1]; exact cells23) h with ⟨hcs, _⟩ | ⟨a, len, cap, m, n', V0, V1, D0, D1, P0, P1, hcs, _, hl, hmx, hm, hx, hall⟩
  · simp at hcs
    subst hcs
    exact ⟨[], none, 0, rfl, Nat.le_refl _, by simp, by simp, fun h => absurd rfl h⟩
  · simp at hcs
    subst hcs
    simp only [if_true] at hm
    subst hm
    simp only [Prod.mk.injEq] at hx
    have hbl : len ≤ 1048576 := by
      have := bulk_slen ((List.range len).map fun i => DataW.agg [D0 i, D1 i]) ((List.range (m - len)).map fun j => DataW.agg [D0 (len + j), D1 (len + j)])
      rw [← hx.1] at this
      simp only [List.length_map, List.length_range] at this
      omega
    have each : ∀ i, i < len → ∃ q : List Int × List Tr, Ints W W.heap.size W.heap.size (V0 i) q.1 ∧ Parts W W.heap.size (V1 i) q.2 := by
      intro i hi
      obtain ⟨_, _, h3, h4⟩ := hall i (by omega)
      rw [t0] at h3
      rw [t1] at h4
      have hbi : Rows.uptoBulk (DataW.agg [D0 i, D1 i]) ≤ 1048576 := by
        refine Nat.le_trans ?_ hb
        rw [hx.1]
        exact bulk_elem (List.mem_map.2 ⟨i, List.mem_range.2 hi, rfl⟩)
      obtain ⟨xs, hxs⟩ := ints_of_trod h3 (Nat.le_trans (bulk_field (by simp)) hbi)
      obtain ⟨ys, hys⟩ := parts_of_trod Try.underlying23 h4 (Nat.le_trans (bulk_field (by simp)) hbi)
      exact ⟨(xs, ys), hxs, hys⟩
    obtain ⟨q, hq⟩ := choose_lt each
    have hget : ∀ i t, ((List.range len).map fun i => (((V0 i, (q i).1), (V1 i, (q i).2)) : Fl))[i]? = some t → i < len ∧ t = ((V0 i, (q i).1), (V1 i, (q i).2)) := by
      intro i t hi
      have hlt := (List.getElem?_eq_some_iff.1 hi).1
      simp at hlt
      simp [hlt] at hi
      exact ⟨hlt, hi.symm⟩
    refine ⟨(List.range len).map fun i => ((V0 i, (q i).1), (V1 i, (q i).2)), some a, m, by simp, by simp; omega, by simp; omega, fun t ht => ?_, fun hne => ?_⟩
    · obtain ⟨i, hi, rfl⟩ := List.mem_map.1 ht
      exact hq i (List.mem_range.1 hi)
    · have hpos : 0 < len := by
        rcases Nat.eq_zero_or_pos len with h0 | h0
        · subst h0; simp at hne
        · exact h0
      obtain ⟨b, o, spot⟩ := a
      have h0 := (hall 0 (by omega)).1
      have hs : spot = none := by simpa [Addr.add] using World.cell?_spot h0
      subst hs
      have hlt : b < W.heap.size := cell_lt (a := (⟨b, o, none⟩ : Addr).add (0 * 2)) h0
      refine ⟨b, o, rfl, hlt, fun i t hi => ?_⟩
      obtain ⟨hi2, rfl⟩ := hget i t hi
      obtain ⟨h1, h2, _⟩ := hall i (by omega)
      rw [Addr.add_lit] at h1 h2
      exact ⟨h1, by rw [Nat.add_assoc, h2]⟩
end Go.Proofs.Ytdcdjjemndadaaa
