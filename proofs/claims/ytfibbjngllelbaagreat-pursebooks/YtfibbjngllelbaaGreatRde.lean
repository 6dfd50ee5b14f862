import Derived.Test.YtfibbjngllelbaaGreatEnt
import Derived.Deep.Slices
import Derived.ProofKit
import Derived.OpenShut
import Derived.Lib.SmallJoins
import Derived.Carry
import Derived.SizedLaws
namespace Go.Proofs.YtfibbjngllelbaaGreat
open Go.ChangeShapes Go.WideShapes Go.ChangeAt Go.RowKit Go.Proofs.YtfibbjngllelbaaGreat.Ds Go.Deep

theorem cell_lt {w : World} {a : Addr} {v : Value} (h : w.cell? a = some v) : a.block < w.heap.size := by
  unfold World.cell? at h
  split at h
  · rename_i hb; exact (Array.getElem?_eq_some_iff.1 hb).1
  · cases h
theorem cells3 : Tryz.prog.cellsOf 3 = 1 := by kernel_rfl
theorem cells9 : Tryz.prog.cellsOf 9 = 1 := by kernel_rfl
theorem cells31 : Tryz.prog.cellsOf 35 = 2 := by kernel_rfl
theorem cells33 : Tryz.prog.cellsOf 45 = 5 := by kernel_rfl
theorem bytes33 : Tryz.prog.bytesOf 45 = 48 := by kernel_rfl
theorem maxLen_eq : maxLen = 9223372036854775807 := by decide
theorem field31 : ∃ f0 f1 : Field, Tryz.prog.underlying 35 = some (.struct #[f0, f1]) ∧ f0.offset = 0 ∧ f1.offset = 1 ∧ f0.type = 3 ∧ f1.type = 3 := by
  refine ⟨_, _, Tryz.underlying35, ?_, ?_, ?_, ?_⟩ <;> rfl
theorem field33 : ∃ f0 f1 f2 f3 : Field, Tryz.prog.underlying 45 = some (.struct #[f0, f1, f2, f3]) ∧ f0.offset = 0 ∧ f1.offset = 1 ∧ f2.offset = 2 ∧ f3.offset = 3 ∧ f0.type = 3 ∧ f1.type = 9 ∧ f2.type = 3 ∧ f3.type = 35 := by
  refine ⟨_, _, _, _, Tryz.underlying45, ?_, ?_, ?_, ?_, ?_, ?_, ?_, ?_⟩ <;> rfl
theorem addr_add_add (a : Addr) (i j : Nat) : (a.add i).add j = a.add (i + j) := by
  unfold Addr.add
  by_cases h1 : i = 0 <;> by_cases h2 : j = 0 <;> simp [h1, h2, Nat.add_assoc]
theorem choose_lt {α : Type} {n : Nat} {p : Nat → α → Prop} [Inhabited α] (h : ∀ i, i < n → ∃ x, p i x) : ∃ f : Nat → α, ∀ i, i < n → p i (f i) := by
  refine ⟨fun i => if hi : i < n then Classical.choose (h i hi) else default, fun i hi => ?_⟩
  simp only [hi, ↓reduceDIte]
  exact Classical.choose_spec (h i hi)
theorem openQ {H : Type} {enc : TypeId × Value → H} {P : Program} {w : World} {base : Nat} {spare : Nat → Bool} {held : Bool} {e : TypeId} {f0 f1 : Field} {n : Nat} {cs : List Value} {x : DataW H × List MemPlace} (he : P.underlying e = some (.struct #[f0, f1])) (o0 : f0.offset = 0) (c0 : P.cellsOf f0.type = 1) (o1 : f1.offset = 1) (c1 : P.cellsOf f1.type = 1)
    (hlen : cs.length = 2) (h : DataW.trod enc P w base spare held n e cs = some x) : ∃ v0 v1 y0 y1 k, cs = [v0, v1] ∧ n = k + 1 ∧ DataW.trod enc P w base spare held k f0.type [v0] = some y0 ∧ DataW.trod enc P w base spare held k f1.type [v1] = some y1 := by
  obtain ⟨xs, k, hk, hxy, _, hxl, hf⟩ := DataW.trod_struct he h
  match xs, hxl, cs, hlen with
  | [y0, y1], _, [v0, v1], _ =>
    have g0 := hf 0 f0 rfl
    have g1 := hf 1 f1 rfl
    simp [o0, o1, c0, c1] at g0 g1
    exact ⟨v0, v1, y0, y1, k, rfl, hk, g0, g1⟩
theorem openE {H : Type} {enc : TypeId × Value → H} {P : Program} {w : World} {base : Nat} {spare : Nat → Bool} {held : Bool} {e : TypeId} {f0 f1 f2 f3 : Field} {n : Nat} {cs : List Value} {x : DataW H × List MemPlace} (he : P.underlying e = some (.struct #[f0, f1, f2, f3])) (o0 : f0.offset = 0) (c0 : P.cellsOf f0.type = 1) (o1 : f1.offset = 1) (c1 : P.cellsOf f1.type = 1) (o2 : f2.offset = 2) (c2 : P.cellsOf f2.type = 1) (o3 : f3.offset = 3) (c3 : P.cellsOf f3.type = 2)
    (hlen : cs.length = 5) (h : DataW.trod enc P w base spare held n e cs = some x) : ∃ v0 v1 v2 v3 v4 y0 y1 y2 y3 k, cs = [v0, v1, v2, v3, v4] ∧ n = k + 1 ∧ DataW.trod enc P w base spare held k f0.type [v0] = some y0 ∧ DataW.trod enc P w base spare held k f1.type [v1] = some y1 ∧ DataW.trod enc P w base spare held k f2.type [v2] = some y2 ∧ DataW.trod enc P w base spare held k f3.type [v3, v4] = some y3 := by
  obtain ⟨xs, k, hk, hxy, _, hxl, hf⟩ := DataW.trod_struct he h
  match xs, hxl, cs, hlen with
  | [y0, y1, y2, y3], _, [v0, v1, v2, v3, v4], _ =>
    have g0 := hf 0 f0 rfl
    have g1 := hf 1 f1 rfl
    have g2 := hf 2 f2 rfl
    have g3 := hf 3 f3 rfl
    simp [o0, o1, o2, o3, c0, c1, c2, c3] at g0 g1 g2 g3
    exact ⟨v0, v1, v2, v3, v4, y0, y1, y2, y3, k, rfl, hk, g0, g1, g2, g3⟩
section
variable {H : Type} {enc : TypeId × Value → H} {W : World}
theorem open31 {n : Nat} {cs : List Value} {x : DataW H × List MemPlace} (hlen : cs.length = 2) (h : DataW.trod enc Tryz.prog W 0 (fun _ => true) true n 35 cs = some x) : ∃ u v, cs = [.int .i64 u, .int .i64 v] := by
  obtain ⟨f0, f1, hu, o0, o1, t0, t1⟩ := field31
  obtain ⟨v0, v1, y0, y1, k, rfl, _, g0, g1⟩ := openQ hu o0 (by rw [t0]; exact cells3) o1 (by rw [t1]; exact cells3) hlen h
  rw [t0] at g0
  rw [t1] at g1
  obtain ⟨k0, d0, _, _⟩ := DataW.trod_int Tryz.underlying3 g0
  obtain ⟨k1, d1, _, _⟩ := DataW.trod_int Tryz.underlying3 g1
  simp at d0 d1
  subst d0 d1
  exact ⟨_, _, rfl⟩
theorem open33 {n : Nat} {cs : List Value} {x : DataW H × List MemPlace} (hlen : cs.length = 5) (h : DataW.trod enc Tryz.prog W 0 (fun _ => true) true n 45 cs = some x) :
    ∃ q : En, cs = [.int .i64 q.1, .string q.2.1, .int .i64 q.2.2.1, .int .i64 q.2.2.2.1, .int .i64 q.2.2.2.2] ∧ q.2.1.size ≤ 9223372036854775807 ∧ (-9223372036854775808 ≤ q.2.2.1 ∧ q.2.2.1 ≤ 9223372036854775807) := by
  obtain ⟨f0, f1, f2, f3, hu, o0, o1, o2, o3, t0, t1, t2, t3⟩ := field33
  obtain ⟨v0, v1, v2, v3, v4, y0, y1, y2, y3, k, rfl, _, g0, g1, g2, g3⟩ := openE hu o0 (by rw [t0]; exact cells3) o1 (by rw [t1]; exact cells9) o2 (by rw [t2]; exact cells3) o3 (by rw [t3]; exact cells31) hlen h
  rw [t0] at g0
  rw [t1] at g1
  rw [t2] at g2
  rw [t3] at g3
  obtain ⟨k0, d0, _, _⟩ := DataW.trod_int Tryz.underlying3 g0
  obtain ⟨s1, d1, _, hw⟩ := DataW.trod_string Tryz.underlying9 g1
  obtain ⟨k2, d2, _, hw2⟩ := DataW.trod_int Tryz.underlying3 g2
  obtain ⟨u, v, d3⟩ := open31 rfl g3
  simp at d0 d1 d2 d3
  obtain ⟨d3, d4⟩ := d3
  subst d0 d1 d2 d3 d4
  exact ⟨(k0, s1, k2, u, v), rfl, by rw [← maxLen_eq]; exact hw, bounds_i64 hw2⟩
/-- entries that came in, however many -/
theorem ents_of_trod {n : Nat} {V : Value} {D : DataW H} {P : List MemPlace} (h : DataW.trod enc Tryz.prog W 0 (fun _ => true) true n 22 [V] = some (D, P)) :
    ∃ l : List En, Ents W W.heap.size V l ∧ (∀ e ∈ l, -9223372036854775808 ≤ e.2.2.1 ∧ e.2.2.1 ≤ 9223372036854775807) ∧ (l = [] ∨ ∃ e s : List (DataW H), D = .slice e s ∧ e.length = l.length) := by
  rcases open_slice Tryz.underlying22 h with ⟨hcs, _⟩ | ⟨a, len, cap, m, n', D0, P0, hcs, _, hl, hmx, hm, hx, hall⟩
  · simp at hcs
    subst hcs
    exact ⟨[], ⟨none, 0, rfl, Nat.le_refl _, by simp, by simp, fun h => absurd rfl h⟩, by simp, .inl rfl⟩
  · simp at hcs
    subst hcs
    simp only [if_true] at hm
    subst hm
    rw [maxLen_eq] at hmx
    simp only [Prod.mk.injEq] at hx
    have each : ∀ i, i < len → ∃ q : En, (q.2.1.size ≤ 9223372036854775807 ∧ (-9223372036854775808 ≤ q.2.2.1 ∧ q.2.2.1 ≤ 9223372036854775807)) ∧ W.cell? (a.add (i * 5)) = some (.int .i64 q.1) ∧ W.cell? (a.add (i * 5 + 1)) = some (.string q.2.1) ∧ W.cell? (a.add (i * 5 + 2)) = some (.int .i64 q.2.2.1) ∧ W.cell? (a.add (i * 5 + 3)) = some (.int .i64 q.2.2.2.1) ∧ W.cell? (a.add (i * 5 + 4)) = some (.int .i64 q.2.2.2.2) := by
      intro i hi
      obtain ⟨cs', h1, h2⟩ := hall i (by omega)
      rw [cells33] at h1
      obtain ⟨_, hlen, hcell⟩ := World.cells?_some h1
      obtain ⟨q, rfl, hn, hp⟩ := open33 hlen h2
      have e0 := hcell 0 (by omega)
      have e1 := hcell 1 (by omega)
      have e2 := hcell 2 (by omega)
      have e3 := hcell 3 (by omega)
      have e4 := hcell 4 (by omega)
      rw [addr_add_add] at e0 e1 e2 e3 e4
      exact ⟨q, ⟨hn, hp⟩, by simpa using e0, by simpa using e1, by simpa using e2, by simpa using e3, by simpa using e4⟩
    obtain ⟨q, hq⟩ := choose_lt each
    have hget : ∀ i t, ((List.range len).map fun i => q i)[i]? = some t → i < len ∧ t = q i := by
      intro i t hi
      have hlt := (List.getElem?_eq_some_iff.1 hi).1
      simp at hlt
      simp [hlt] at hi
      exact ⟨hlt, hi.symm⟩
    refine ⟨(List.range len).map fun i => q i, ⟨some a, m, by simp, by simp; omega, by simp; omega, fun t ht => ?_, fun hne => ?_⟩, fun t ht => ?_, .inr ⟨_, _, hx.1, by simp⟩⟩
    · obtain ⟨i, hi, rfl⟩ := List.mem_map.1 ht
      exact (hq i (List.mem_range.1 hi)).1.1
    · have hpos : 0 < len := by
        rcases Nat.eq_zero_or_pos len with h0 | h0
        · subst h0; simp at hne
        · exact h0
      obtain ⟨b, o, spot⟩ := a
      have h0 := (hq 0 (by omega)).2.1
      have hs : spot = none := by simpa [Addr.add] using World.cell?_spot h0
      subst hs
      have hlt : b < W.heap.size := cell_lt (a := (⟨b, o, none⟩ : Addr).add (0 * 5)) h0
      refine ⟨b, o, rfl, hlt, fun i t hi => ?_⟩
      obtain ⟨hi2, rfl⟩ := hget i t hi
      obtain ⟨_, h1, h2, h3, h4, h5⟩ := hq i hi2
      rw [Addr.add_lit] at h1 h2 h3 h4 h5
      exact ⟨h1, by rw [Nat.add_assoc]; exact h2, by rw [Nat.add_assoc]; exact h3, by rw [Nat.add_assoc]; exact h4, by rw [Nat.add_assoc]; exact h5⟩
    · obtain ⟨i, hi, rfl⟩ := List.mem_map.1 ht
      exact (hq i (List.mem_range.1 hi)).1.2
end
/-- no more than a process's addresses hold -/
theorem ents_sized {H : Type} {ts : List TypeId} {ds : List (DataW H)} (h : (DataW.weightsEach Tryz.prog ts ds).all (· ≤ reachBytes) = true) {j : Nat} {D : DataW H} (ht : ts[j]? = some 22) (hd : ds[j]? = some D) {xs : List En} (hx : xs = [] ∨ ∃ e s : List (DataW H), D = .slice e s ∧ e.length = xs.length) : xs.length ≤ 4398046511104 := by
  rcases hx with rfl | ⟨e, s, rfl, he⟩
  · simp
  · have := sized_slice h ht hd Tryz.underlying22
    rw [bytes33] at this
    unfold reachBytes at this
    omega
end Go.Proofs.YtfibbjngllelbaaGreat
