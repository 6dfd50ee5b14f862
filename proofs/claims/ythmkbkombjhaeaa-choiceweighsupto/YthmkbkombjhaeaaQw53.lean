import Derived.Test.YthmkbkombjhaeaaQw03
import Derived.Deep.SlicePairs
import Derived.ProofKit
import Derived.OpenShut
import Derived.JoinedCond
import Derived.Carry
import Derived.Test.YthmkbkombjhaeaaQw08
import Derived.SizedLaws
namespace Go.Proofs.Ythmkbkombjhaeaa
open Go.ChangeShapes Go.WideShapes Go.ChangeAt Go.RowKit Go.Proofs.Ythmkbkombjhaeaa.Ds Go.Deep

theorem bulk_one {H : Type} (d : DataW H) : 1 ≤ Rows.uptoBulk d := by
  cases d with
  | lit l => cases l <;> simp [Rows.uptoBulk]
  | nil => simp [Rows.uptoBulk]
  | ptr d => simp [Rows.uptoBulk]
  | slice e s => simp [Rows.uptoBulk]
  | agg p => simp [Rows.uptoBulk]
  | iface t d => simp [Rows.uptoBulk]
  | map e => simp [Rows.uptoBulk]
  | held h => simp [Rows.uptoBulk]

theorem bulk_mem {H : Type} {d : DataW H} {l : List (DataW H)} (h : d ∈ l) : Rows.uptoBulk d ≤ Rows.uptoBulkAll l := by
  induction l with
  | nil => cases h
  | cons x r ih =>
    simp only [Rows.uptoBulkAll]
    rcases List.mem_cons.1 h with rfl | h
    · omega
    · have := ih h; omega

theorem bulk_len {H : Type} (l : List (DataW H)) : l.length ≤ Rows.uptoBulkAll l := by
  induction l with
  | nil => simp
  | cons x r ih => have := bulk_one x; simp only [Rows.uptoBulkAll, List.length_cons]; omega

theorem bulk_elem {H : Type} {d : DataW H} {e s : List (DataW H)} (h : d ∈ e) : Rows.uptoBulk d ≤ Rows.uptoBulk (.slice e s) := by
  have := bulk_mem h
  simp only [Rows.uptoBulk]; omega
theorem bulk_slen {H : Type} (e s : List (DataW H)) : e.length ≤ Rows.uptoBulk (.slice e s) := by
  have := bulk_len e
  simp only [Rows.uptoBulk]; omega
theorem bulk_field {H : Type} {d : DataW H} {l : List (DataW H)} (h : d ∈ l) : Rows.uptoBulk d ≤ Rows.uptoBulk (.agg l) := by
  have := bulk_mem h
  simp only [Rows.uptoBulk]; omega

theorem cell_lt {w : World} {a : Addr} {v : Value} (h : w.cell? a = some v) : a.block < w.heap.size := by
  unfold World.cell? at h
  split at h
  · rename_i hb; exact (Array.getElem?_eq_some_iff.1 hb).1
  · cases h

theorem cells3 : Try.prog.cellsOf 3 = 1 := by kernel_rfl
theorem cells24 : Try.prog.cellsOf 24 = 1 := by kernel_rfl

/-- a list of numbers that came in -/
theorem ints_of_trod {H : Type} {enc : TypeId × Value → H} {W : World} {n : Nat} {V : Value} {D : DataW H} {P : List MemPlace} (h : DataW.trod enc Try.prog W 0 (fun _ => true) true n 24 [V] = some (D, P)) (hb : Rows.uptoBulk D ≤ 1048576) :
    ∃ xs, Ints W W.heap.size W.heap.size V xs ∧ (∀ n ∈ xs, -9223372036854775808 ≤ n ∧ n ≤ 9223372036854775807) ∧ xs.length ≤ 1048576 := by
  rcases open_ints Try.underlying24 Try.underlying3 cells3 h with ⟨hcs, _⟩ | ⟨a, len, cap, zs, hcs, _, hl, hmx, hz, hx, hcell, hwz⟩
  · simp at hcs
    subst hcs
    exact ⟨[], ⟨none, 0, rfl, Nat.le_refl _, by simp, fun h => absurd rfl h⟩, by simp, by simp⟩
  · simp at hcs
    subst hcs
    simp only [if_true] at hz
    simp only [Prod.mk.injEq] at hx
    have hlen : (zs.take len).length = len := by simp; omega
    have hbl : len ≤ 1048576 := by
      have := bulk_slen (lits (H := H) .i64 (zs.take len)) (lits .i64 (zs.drop len))
      rw [← hx.1] at this
      simp only [lits, List.length_map, hlen] at this
      omega
    refine ⟨zs.take len, ⟨some a, cap, by rw [hlen], by omega, by omega, fun hne => ?_⟩, fun n hn => bounds_i64 (hwz n (List.mem_of_mem_take hn)), by rw [hlen]; exact hbl⟩
    have hpos : 0 < len := by
      rcases Nat.eq_zero_or_pos len with h0 | h0
      · subst h0; simp at hne
      · exact h0
    obtain ⟨b, o, spot⟩ := a
    have h0 := hcell 0 (by omega)
    have hs : spot = none := by simpa [Addr.add] using World.cell?_spot h0
    subst hs
    have hlt : b < W.heap.size := cell_lt (a := (⟨b, o, none⟩ : Addr).add 0) h0
    refine ⟨b, o, rfl, hlt, by omega, fun i x hi => ?_⟩
    have hi2 : i < len := by rw [← hlen]; exact (List.getElem?_eq_some_iff.1 hi).1
    have h1 := hcell i (by omega)
    rw [Addr.add_lit] at h1
    rw [h1]
    rw [List.getElem?_take_of_lt hi2] at hi
    simp [List.getD, hi]

end Go.Proofs.Ythmkbkombjhaeaa

namespace Go.Proofs.Ythmkbkombjhaeaa
open Go.ChangeShapes Go.WideShapes Go.ChangeAt Go.RowKit Go.Proofs.Ythmkbkombjhaeaa.Ds Go.Deep

theorem maxLen_eq : maxLen = 9223372036854775807 := by decide
/-- numbers that came in, however many -/
theorem num_of_trod {H : Type} {enc : TypeId × Value → H} {W : World} {n : Nat} {V : Value} {D : DataW H} {P : List MemPlace} (h : DataW.trod enc Try.prog W 0 (fun _ => true) true n 24 [V] = some (D, P)) :
    ∃ xs, Num W W.heap.size V xs ∧ (∀ n ∈ xs, -9223372036854775808 ≤ n ∧ n ≤ 9223372036854775807) ∧ (xs = [] ∨ ∃ e s : List (DataW H), D = .slice e s ∧ e.length = xs.length) := by
  rcases open_ints Try.underlying24 Try.underlying3 cells3 h with ⟨hcs, _⟩ | ⟨a, len, cap, zs, hcs, _, hl, hmx, hz, hx, hcell, hwz⟩
  · simp at hcs
    subst hcs
    exact ⟨[], ⟨none, 0, rfl, Nat.le_refl _, by simp, fun h => absurd rfl h⟩, by simp, .inl rfl⟩
  · simp at hcs
    subst hcs
    simp only [if_true] at hz
    simp only [Prod.mk.injEq] at hx
    have hlen : (zs.take len).length = len := by simp; omega
    rw [maxLen_eq] at hmx
    refine ⟨zs.take len, ⟨some a, cap, by rw [hlen], by omega, by omega, fun hne => ?_⟩, fun n hn => bounds_i64 (hwz n (List.mem_of_mem_take hn)), .inr ⟨_, _, hx.1, by simp [lits]⟩⟩
    have hpos : 0 < len := by
      rcases Nat.eq_zero_or_pos len with h0 | h0
      · subst h0; simp at hne
      · exact h0
    obtain ⟨b, o, spot⟩ := a
    have h0 := hcell 0 (by omega)
    have hs : spot = none := by simpa [Addr.add] using World.cell?_spot h0
    subst hs
    have hlt : b < W.heap.size := cell_lt (a := (⟨b, o, none⟩ : Addr).add 0) h0
    refine ⟨b, o, rfl, hlt, fun i x hi => ?_⟩
    have hi2 : i < len := by rw [← hlen]; exact (List.getElem?_eq_some_iff.1 hi).1
    have h1 := hcell i (by omega)
    rw [Addr.add_lit] at h1
    rw [h1]
    rw [List.getElem?_take_of_lt hi2] at hi
    simp [List.getD, hi]
theorem bytes3 : Try.prog.bytesOf 3 = 8 := by kernel_rfl
/-- no more than a process's addresses hold -/
theorem num_sized {H : Type} {ts : List TypeId} {ds : List (DataW H)} (h : (DataW.weightsEach Try.prog ts ds).all (· ≤ reachBytes) = true) {j : Nat} {D : DataW H} (ht : ts[j]? = some 24) (hd : ds[j]? = some D) {xs : List Int} (hx : xs = [] ∨ ∃ e s : List (DataW H), D = .slice e s ∧ e.length = xs.length) : xs.length ≤ 17592186044416 := by
  rcases hx with rfl | ⟨e, s, rfl, he⟩
  · simp
  · have := sized_slice h ht hd Try.underlying24
    rw [bytes3] at this
    unfold reachBytes at this
    omega
end Go.Proofs.Ythmkbkombjhaeaa

namespace Go.Proofs.Ythmkbkombjhaeaa
open Go.ChangeShapes Go.WideShapes Go.ChangeAt Go.RowKit Go.Proofs.Ythmkbkombjhaeaa.Ds Go.Deep

theorem cells55 : Try.prog.cellsOf 55 = 2 := by kernel_rfl
theorem field0 : ∃ f0 f1 : Field, Try.prog.underlying 55 = some (.struct #[f0, f1]) ∧ f0.offset = 0 ∧ f1.offset = 1 ∧ f0.type = 24 ∧ f1.type = 3 := by
  refine ⟨_, _, Try.underlying55, ?_, ?_, ?_, ?_⟩ <;> rfl

/-- a list of parts that came in -/
theorem parts_of_trod {H : Type} {enc : TypeId × Value → H} {W : World} {n t : Nat} {V : Value} {D : DataW H} {P : List MemPlace} (ht : Try.prog.underlying t = some (.slice 55)) (h : DataW.trod enc Try.prog W 0 (fun _ => true) true n t [V] = some (D, P)) (hb : Rows.uptoBulk D ≤ 1048576) :
    ∃ ts, Parts W W.heap.size V ts := by
  obtain ⟨f0, f1, hu, o0, o1, t0, t1⟩ := field0
  rcases open_slice_pairs ht hu cells55 o0 o1 (by rw [t0]; exact cells24) (by rw [t1]; exact cells3) h with ⟨hcs, _⟩ | ⟨a, len, cap, m, n', V0, V1, D0, D1, P0, P1, hcs, _, hl, hmx, hm, hx, hall⟩
  · simp at hcs
    subst hcs
    exact ⟨[], none, 0, rfl, Nat.le_refl _, by simp, by simp, fun h => absurd rfl h⟩
  · simp at hcs
    subst hcs
    simp only [if_true] at hm
    subst hm
    simp only [Prod.mk.injEq] at hx
    have hbl : len ≤ 1048576 := by
      have := bulk_slen ((List.range len).map fun i => DataW.agg [D0 i, D1 i]) ((List.range (m - len)).map fun j => DataW.agg [D0 (len + j), D1 (len + j)])
      rw [← hx.1] at this
      simp only [List.length_map, List.length_range] at this
      omega
    have each : ∀ i, i < len → ∃ q : List Int × Int, Ints W W.heap.size W.heap.size (V0 i) q.1 ∧ V1 i = .int .i64 q.2 := by
      intro i hi
      obtain ⟨_, _, h3, h4⟩ := hall i (by omega)
      rw [t0] at h3
      rw [t1] at h4
      have hbi : Rows.uptoBulk (DataW.agg [D0 i, D1 i]) ≤ 1048576 := by
        refine Nat.le_trans ?_ hb
        rw [hx.1]
        exact bulk_elem (List.mem_map.2 ⟨i, List.mem_range.2 hi, rfl⟩)
      obtain ⟨xs, hxs, _, _⟩ := ints_of_trod h3 (Nat.le_trans (bulk_field (by simp)) hbi)
      obtain ⟨k, e1, _, _⟩ := DataW.trod_int Try.underlying3 h4
      simp at e1
      exact ⟨(xs, k), hxs, e1⟩
    obtain ⟨q, hq⟩ := choose_lt each
    have hget : ∀ i t, ((List.range len).map fun i => (V0 i, q i))[i]? = some t → i < len ∧ t = (V0 i, q i) := by
      intro i t hi
      have hlt := (List.getElem?_eq_some_iff.1 hi).1
      simp at hlt
      simp [hlt] at hi
      exact ⟨hlt, hi.symm⟩
    refine ⟨(List.range len).map fun i => (V0 i, q i), some a, m, by simp, by simp; omega, by simp; omega, fun t ht => ?_, fun hne => ?_⟩
    · obtain ⟨i, hi, rfl⟩ := List.mem_map.1 ht
      exact (hq i (List.mem_range.1 hi)).1
    · have hpos : 0 < len := by
        rcases Nat.eq_zero_or_pos len with h0 | h0
        · subst h0; simp at hne
        · exact h0
      obtain ⟨b, o, spot⟩ := a
      have h0 := (hall 0 (by omega)).1
      have hs : spot = none := by simpa [Addr.add] using World.cell?_spot h0
      subst hs
      have hlt : b < W.heap.size := cell_lt (a := (⟨b, o, none⟩ : Addr).add (0 * 2)) h0
      refine ⟨b, o, rfl, hlt, fun i t hi => ?_⟩
      obtain ⟨hi2, rfl⟩ := hget i t hi
      obtain ⟨h1, h2, _⟩ := hall i (by omega)
      rw [Addr.add_lit] at h1 h2
      exact ⟨h1, by rw [Nat.add_assoc, h2, (hq i hi2).2]⟩
end Go.Proofs.Ythmkbkombjhaeaa
