import Derived.Test.YtjnclbhpdaonhaaEvf
import Derived.Test.YtjnclbhpdaonhaaCop
namespace Go.Proofs.Ytjnclbhpdaonhaa
open Go.RowKit Go.Proofs.Ytjnclbhpdaonhaa.Ds

/-- a row of numbers that may be written -/
structure RowI (w : World) (g : Nat) (xs : List Int) : Prop where
  cells : ∀ i x, xs[i]? = some x → w.cell? ⟨g, i, none⟩ = some (.int .i64 x)
  thaw : ∀ i, i < xs.length → w.frozen? ⟨g, i, none⟩ = false
  lt : g < w.heap.size
theorem RowI.keep {w w' : World} {g N : Nat} {xs : List Int} (h : RowI w g xs) (hb : Below N w w') (hg : g < N) : RowI w' g xs :=
  ⟨fun i x hi => (hb.cell (p := ⟨g, i, none⟩) hg).trans (h.cells i x hi), fun i hi => (hb.frozen (p := ⟨g, i, none⟩) hg).trans (h.thaw i hi), Nat.lt_of_lt_of_le h.lt hb.size⟩
theorem RowI.set {w : World} {g : Nat} {xs : List Int} (h : RowI w g xs) (i : Nat) (k : Int) : RowI (w.setCell ⟨g, i, none⟩ (.int .i64 k)) g (xs.set i k) := by
  refine ⟨fun j x hj => ?_, fun j hj => by rw [sc_frozen]; exact h.thaw j (by simpa using hj), by simpa using h.lt⟩
  by_cases e : i = j
  · subst e
    have hi : i < xs.length := by have := (List.getElem?_eq_some_iff.1 hj).1; simpa using this
    rw [List.getElem?_set_self hi] at hj
    obtain rfl : k = x := by simpa using hj
    obtain ⟨y, hy⟩ := get_lt hi
    exact sc_same (h.cells i y hy)
  · rw [List.getElem?_set_ne e] at hj
    rw [sc_other (fun h => e (congrArg Addr.off h))]
    exact h.cells j x hj
theorem RowI.made (w : World) (n : Nat) : RowI (w.alloc (.cells (madeCells #[.int .i64 0] n) 3)) w.heap.size (List.replicate n 0) := by
  refine ⟨fun i x hi => ?_, fun i _ => World.frozen?_alloc_at _ _ _ _ rfl, by simp⟩
  have h1 : i < n := by have := (List.getElem?_eq_some_iff.1 hi).1; simpa using this
  obtain rfl : x = 0 := by
    have := (List.getElem?_eq_some_iff.1 hi).2; simp at this; exact this.symm
  rw [World.cell?_alloc_at _ _ _ _ rfl]
  simp [madeCells, h1, Nat.mod_one]
theorem RowI.ints {w : World} {g : Nat} {xs : List Int} (h : RowI w g xs) (hl : xs.length ≤ 1073741824) : ∀ m, m < g → Ints w w.heap.size m (.slice (some ⟨g, 0, none⟩) xs.length xs.length) xs :=
  fun m hm => ⟨_, _, rfl, Nat.le_refl _, hl, fun _ => ⟨g, 0, rfl, h.lt, by omega, fun i x hi => by rw [Nat.zero_add]; exact h.cells i x hi⟩⟩

/-- 'make' of n numbers -/
theorem make_ints (n : Nat) (hn : n ≤ 1073741824) (u : World) : (Instr.makeSlice 24 (.int .i64 (n : Int)) (.int .i64 (n : Int))).run Try.prog u =
    .ok (.slice (some ⟨u.heap.size, 0, none⟩) n n) (u.alloc (.cells (madeCells #[.int .i64 0] n) 3)) := by
  obtain ⟨i0, hi, hz0, hz1, hz2⟩ := info_parts info3
  have h := run_make (P := Try.prog) u 24 3 i0 (.int .i64 0) Try.underlying24 hi hz0 .i64 .i64 (n : Int) (n : Int) (by omega) (Int.le_refl _) (by rw [hz2]; omega) (by omega)
  rw [Int.toNat_natCast] at h
  simpa [hz1, Value.cells] using h

/-- as far as one has come -/
def Digd (j L : Nat) (n : Nat) (k : Nat) (xs : List Int) : Prop := xs.length = L ∧ k ≤ L ∧ dg j L = dg n k ++ xs.drop k
theorem Digd.start (j L : Nat) : Digd j L j L (List.replicate L 0) := ⟨by simp, Nat.le_refl _, by simp⟩
theorem Digd.step {j L n k : Nat} {xs : List Int} (h : Digd j L n (k + 1) xs) : Digd j L (n / 2) k (xs.set k ((n % 2 : Nat) : Int)) := by
  obtain ⟨h1, h2, h3⟩ := h
  refine ⟨by simpa using h1, by omega, ?_⟩
  rw [h3]
  simp only [dg]
  rw [List.append_assoc, List.drop_eq_getElem_cons (l := xs.set k _) (i := k) (by simp; omega)]
  simp [List.drop_set_of_lt]

set_option maxHeartbeats 1000000 in
theorem digits_any (j L : Nat) (w : World) (hL : L ≤ 9) (hj : j ≤ 4611686018427387904) :
    Calls Try.prog 15 #[.int .i64 (j : Int), .int .i64 (L : Int)] w fun e w' => (∃ a c, e = .returned (.slice a (dg j L).length c) ∧ ∀ m, m < w.heap.size → Ints w' w'.heap.size m (.slice a (dg j L).length c) (dg j L)) ∧ Below w.heap.size w w' := by
  have hmk := make_ints L (by omega)
  go_enter Try.func15, Try.ntmps15
  go_wp2
  go_loopw [0, 6] (fun nv iv wr => ∃ (n k : Nat) (xs : List Int), nv = .int .i64 (n : Int) ∧ iv = .int .i64 ((k : Int) - 1) ∧ n ≤ 4611686018427387904 ∧ k ≤ L ∧ Hid (Digd j L n k xs) ∧ Hid (RowI wr w.heap.size xs) ∧ Below w.heap.size w wr) (fun _ iv _ => (intOf iv + 1).toNat)
  case atStart => exact ⟨j, L, List.replicate L 0, rfl, by go_num, hj, Nat.le_refl _, Digd.start j L, RowI.made _ _, ba _ _⟩
  case round =>
    obtain ⟨n, k, xs, rfl, rfl, hn, hk, HD, HR, hbl⟩ := hrel
    have hxl : Hid (xs.length = L) := HD.out.1
    cases k with
    | zero =>
      have HX : Hid (xs = dg j L) := by have := HD.out.2.2; simpa [dg, Hid] using this.symm
      go_wp2
      go_ret
      obtain rfl : xs = dg j L := HX.out
      have := HR.out.ints (by have := hxl.out; omega)
      rw [hxl.out] at this
      refine ⟨⟨some ⟨w.heap.size, 0, none⟩, L, ?_, fun m hm => by rw [hxl.out]; exact this m hm⟩, hbl⟩
      rw [hxl.out]
      rfl
    | succ k =>
      obtain ⟨x, hx⟩ := get_lt (l := xs) (i := k) (by have := hxl.out; omega)
      have c1 := HR.out.cells k x hx
      have c2 := HR.out.thaw k (by have := hxl.out; omega)
      have HD2 : Hid (Digd j L (n / 2) k (xs.set k ((n % 2 : Nat) : Int))) := HD.out.step
      have y1 : (k : Int) < (L : Int) := by omega
      clear hx
      go_wp2
      go_roundw
      case rel => exact ⟨n / 2, k, xs.set k ((n % 2 : Nat) : Int), by go_num, by go_num, by omega, by omega, HD2, HR.out.set k ((n % 2 : Nat) : Int), bs hbl (p := ⟨w.heap.size, k, none⟩) (Nat.le_refl _) _⟩
      case measure => simp [intOf]
end Go.Proofs.Ytjnclbhpdaonhaa
