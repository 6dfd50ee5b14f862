import Derived.Test.YtkpjjiomfgkobaaDoorClc
import Derived.Deep.SlicePairs
import Derived.Deep.Slices
import Derived.ProofKit
import Derived.OpenShut
import Derived.Lib.SmallJoins
import Derived.Carry
namespace Go.Proofs.YtkpjjiomfgkobaaDoor
open Go.ChangeShapes Go.WideShapes Go.ChangeAt Go.RowKit Go.Proofs.YtkpjjiomfgkobaaDoor.Ds Go.Deep

theorem cell_lt {w : World} {a : Addr} {v : Value} (h : w.cell? a = some v) : a.block < w.heap.size := by
  unfold World.cell? at h
  split at h
  · rename_i hb; exact (Array.getElem?_eq_some_iff.1 hb).1
  · cases h
theorem cells3 : Tryd.prog.cellsOf 3 = 1 := by kernel_rfl
theorem cells9 : Tryd.prog.cellsOf 9 = 1 := by kernel_rfl
theorem cells26 : Tryd.prog.cellsOf 39 = 1 := by kernel_rfl
theorem cells47 : Tryd.prog.cellsOf 52 = 2 := by kernel_rfl
theorem cells25 : Tryd.prog.cellsOf 25 = 2 := by kernel_rfl
theorem maxLen_eq : maxLen = 9223372036854775807 := by decide

/-- a list of numbers that came in -/
theorem ints_of_trod {H : Type} {enc : TypeId × Value → H} {W : World} {n : Nat} {V : Value} {D : DataW H} {P : List MemPlace} (h : DataW.trod enc Tryd.prog W 0 (fun _ => true) true n 39 [V] = some (D, P)) :
    ∃ xs, Ints W W.heap.size W.heap.size V xs := by
  rcases open_ints Tryd.underlying39 Tryd.underlying3 cells3 h with ⟨hcs, _⟩ | ⟨a, len, cap, zs, hcs, _, hl, hmx, hz, hx, hcell, hwz⟩
  · simp at hcs
    subst hcs
    exact ⟨[], none, 0, rfl, Nat.le_refl _, by simp, fun h => absurd rfl h⟩
  · simp at hcs
    subst hcs
    simp only [if_true] at hz
    have hlen : (zs.take len).length = len := by simp; omega
    rw [maxLen_eq] at hmx
    refine ⟨zs.take len, some a, cap, by rw [hlen], by omega, by omega, fun hne => ?_⟩
    have hpos : 0 < len := by
      rcases Nat.eq_zero_or_pos len with h0 | h0
      · subst h0; simp at hne
      · exact h0
    obtain ⟨b, o, spot⟩ := a
    have h0 := hcell 0 (by omega)
    have hs : spot = none := by simpa [Addr.add] using World.cell?_spot h0
    subst hs
    have hlt : b < W.heap.size := cell_lt (a := (⟨b, o, none⟩ : Addr).add 0) h0
    refine ⟨b, o, rfl, hlt, by omega, fun i x hi => ?_⟩
    have hi2 : i < len := by rw [← hlen]; exact (List.getElem?_eq_some_iff.1 hi).1
    have h1 := hcell i (by omega)
    rw [Addr.add_lit] at h1
    rw [h1]
    rw [List.getElem?_take_of_lt hi2] at hi
    simp [List.getD, hi]

/-- rows that came in -/
theorem rows_of_trod {H : Type} {enc : TypeId × Value → H} {W : World} {n : Nat} {V : Value} {D : DataW H} {P : List MemPlace} (h : DataW.trod enc Tryd.prog W 0 (fun _ => true) true n 23 [V] = some (D, P)) :
    ∃ ts : List Rw, Rws W W.heap.size V ts := by
  rcases open_slice1 Tryd.underlying23 cells26 h with ⟨hcs, _⟩ | ⟨a, len, cap, m, n', V0, D0, P0, hcs, _, hl, hmx, hm, hx, hall⟩
  · simp at hcs
    subst hcs
    exact ⟨[], rws_nil _ _⟩
  · simp at hcs
    subst hcs
    simp only [if_true] at hm
    subst hm
    rw [maxLen_eq] at hmx
    have each : ∀ i, i < len → ∃ q : List Int, Ints W W.heap.size W.heap.size (V0 i) q := fun i hi => ints_of_trod (hall i (by omega)).2
    obtain ⟨q, hq⟩ := choose_lt each
    have hget : ∀ i t, ((List.range len).map fun i => ((V0 i, q i) : Rw))[i]? = some t → i < len ∧ t = (V0 i, q i) := by
      intro i t hi
      have hlt := (List.getElem?_eq_some_iff.1 hi).1
      simp at hlt
      simp [hlt] at hi
      exact ⟨hlt, hi.symm⟩
    refine ⟨(List.range len).map fun i => (V0 i, q i), some a, m, by simp, by simp; omega, by simp; omega, fun t ht => ?_, fun hne => ?_⟩
    · obtain ⟨i, hi, rfl⟩ := List.mem_map.1 ht
      exact hq i (List.mem_range.1 hi)
    · have hpos : 0 < len := by
        rcases Nat.eq_zero_or_pos len with h0 | h0
        · subst h0; simp at hne
        · exact h0
      obtain ⟨b, o, spot⟩ := a
      have h0 := (hall 0 (by omega)).1
      have hs : spot = none := by simpa [Addr.add] using World.cell?_spot h0
      subst hs
      have hlt : b < W.heap.size := cell_lt (a := (⟨b, o, none⟩ : Addr).add 0) h0
      refine ⟨b, o, rfl, hlt, fun i t hi => ?_⟩
      obtain ⟨hi2, rfl⟩ := hget i t hi
      obtain ⟨h1, _⟩ := hall i (by omega)
      rw [Addr.add_lit] at h1
      exact h1

theorem field47 : ∃ f0 f1 : Field, Tryd.prog.underlying 52 = some (.struct #[f0, f1]) ∧ f0.offset = 0 ∧ f1.offset = 1 ∧ f0.type = 9 ∧ f1.type = 3 := by
  refine ⟨_, _, Tryd.underlying52, ?_, ?_, ?_, ?_⟩ <;> rfl

/-- columns that came in -/
theorem cols_of_trod {H : Type} {enc : TypeId × Value → H} {W : World} {n : Nat} {V : Value} {D : DataW H} {P : List MemPlace} (h : DataW.trod enc Tryd.prog W 0 (fun _ => true) true n 22 [V] = some (D, P)) :
    ∃ l : List Col, Cols W W.heap.size V l := by
  obtain ⟨f0, f1, hu, o0, o1, t0, t1⟩ := field47
  rcases open_slice_pairs Tryd.underlying22 hu cells47 o0 o1 (by rw [t0]; exact cells9) (by rw [t1]; exact cells3) h with ⟨hcs, _⟩ | ⟨a, len, cap, m, n', V0, V1, D0, D1, P0, P1, hcs, _, hl, hmx, hm, hx, hall⟩
  · simp at hcs
    subst hcs
    exact ⟨[], cols_nil _ _⟩
  · simp at hcs
    subst hcs
    simp only [if_true] at hm
    subst hm
    rw [maxLen_eq] at hmx
    have each : ∀ i, i < len → ∃ q : Col, (V0 i = .string q.1 ∧ V1 i = .int .i64 q.2) ∧ q.1.size ≤ 9223372036854775807 := by
      intro i hi
      obtain ⟨_, _, h3, h4⟩ := hall i (by omega)
      rw [t0] at h3
      rw [t1] at h4
      obtain ⟨s, e0, _, hw⟩ := DataW.trod_string Tryd.underlying9 h3
      obtain ⟨k, e1, _, _⟩ := DataW.trod_int Tryd.underlying3 h4
      simp at e0 e1
      exact ⟨(s, k), ⟨e0, e1⟩, by rw [← maxLen_eq]; exact hw⟩
    obtain ⟨q, hq⟩ := choose_lt each
    have hget : ∀ i t, ((List.range len).map fun i => q i)[i]? = some t → i < len ∧ t = q i := by
      intro i t hi
      have hlt := (List.getElem?_eq_some_iff.1 hi).1
      simp at hlt
      simp [hlt] at hi
      exact ⟨hlt, hi.symm⟩
    refine ⟨(List.range len).map fun i => q i, some a, m, by simp, by simp; omega, by simp; omega, fun t ht => ?_, fun hne => ?_⟩
    · obtain ⟨i, hi, rfl⟩ := List.mem_map.1 ht
      exact (hq i (List.mem_range.1 hi)).2
    · have hpos : 0 < len := by
        rcases Nat.eq_zero_or_pos len with h0 | h0
        · subst h0; simp at hne
        · exact h0
      obtain ⟨b, o, spot⟩ := a
      have h0 := (hall 0 (by omega)).1
      have hs : spot = none := by simpa [Addr.add] using World.cell?_spot h0
      subst hs
      have hlt : b < W.heap.size := cell_lt (a := (⟨b, o, none⟩ : Addr).add (0 * 2)) h0
      refine ⟨b, o, rfl, hlt, fun i t hi => ?_⟩
      obtain ⟨hi2, rfl⟩ := hget i t hi
      obtain ⟨h1, h2, _⟩ := hall i (by omega)
      rw [Addr.add_lit] at h1 h2
      exact ⟨by rw [h1, (hq i hi2).1.1], by rw [Nat.add_assoc, h2, (hq i hi2).1.2]⟩
end Go.Proofs.YtkpjjiomfgkobaaDoor
