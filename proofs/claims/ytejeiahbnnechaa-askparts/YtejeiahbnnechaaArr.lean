import Derived.Test.YtejeiahbnnechaaAns
import Derived.Deep.RegionHeld3
namespace Go.Proofs.Ytejeiahbnnechaa
open Go.RowKit Go.Proofs.Ytejeiahbnnechaa.Ds

/-- NUMBERS OF ONE'S OWN: in block g, from lo on; they may be written, and grow. -/
def Arw (w : World) (lo g c : Nat) (xs : List Int) : Prop := w.ownsRow lo 3 1 (.slice (some ⟨g, 0, none⟩) xs.length c) xs.length (xs.map (.int .i64))
theorem Arw.inv {w : World} {lo g c : Nat} {xs : List Int} (h : Arw w lo g c xs) : ∃ cur : Array Value, lo ≤ g ∧ w.heap[g]? = some (.cells cur 3 (0, 0)) ∧ xs.length ≤ c ∧ c ≤ maxLen ∧ cur.size = c ∧ cur.toList.take xs.length = xs.map (.int .i64) := by
  obtain ⟨_, h | ⟨g', c', cur, e, h1, h2, h3, h4, h5, h6⟩⟩ := h
  · simp at h
  · simp only [Value.slice.injEq, Option.some.injEq, Addr.mk.injEq, and_true, true_and] at e
    obtain ⟨rfl, rfl⟩ := e
    exact ⟨cur, h1, h2, h3, h4, by simpa using h5, by simpa using h6⟩
theorem Arw.mk {w : World} {lo g c : Nat} {xs : List Int} {cur : Array Value} (h1 : lo ≤ g) (h2 : w.heap[g]? = some (.cells cur 3 (0, 0))) (h3 : xs.length ≤ c) (h4 : c ≤ maxLen) (h5 : cur.size = c) (h6 : cur.toList.take xs.length = xs.map (.int .i64)) : Arw w lo g c xs :=
  ⟨by simp, .inr ⟨g, c, cur, rfl, h1, h2, h3, h4, by simpa using h5, by simpa using h6⟩⟩
theorem Arw.lt {w : World} {lo g c : Nat} {xs : List Int} (h : Arw w lo g c xs) : lo ≤ g ∧ g < w.heap.size := by
  obtain ⟨cur, h1, h2, _⟩ := h.inv
  exact ⟨h1, (Array.getElem?_eq_some_iff.1 h2).1⟩
theorem Arw.at {w w' : World} {lo g c : Nat} {xs : List Int} (h : Arw w lo g c xs) (hb : Below w.heap.size w w') : Arw w' lo g c xs := owns_below h hb
theorem Arw.cell {w : World} {lo g c : Nat} {xs : List Int} (h : Arw w lo g c xs) {i : Nat} {x : Int} (hi : xs[i]? = some x) : w.cell? ⟨g, i, none⟩ = some (.int .i64 x) := by
  have := World.ownsRow.cells h (g := g) rfl i (.int .i64 x) (by simp [hi])
  rwa [Addr.add_lit, Nat.zero_add] at this
theorem Arw.fz {w : World} {lo g c : Nat} {xs : List Int} (h : Arw w lo g c xs) (i : Nat) : w.frozen? ⟨g, i, none⟩ = false := by
  obtain ⟨cur, _, h2, _⟩ := h.inv
  exact frozen_zero h2
theorem Arw.set {w : World} {lo g c : Nat} {xs : List Int} (h : Arw w lo g c xs) (i : Nat) (z : Int) : Arw (w.setCell ⟨g, i, none⟩ (.int .i64 z)) lo g c (xs.set i z) := by
  obtain ⟨cur, h1, h2, h3, h4, h5, h6⟩ := h.inv
  obtain ⟨hlt, hk⟩ := Array.getElem?_eq_some_iff.1 h2
  refine Arw.mk (cur := cur.setIfInBounds i (.int .i64 z)) h1 ?_ (by simpa using h3) h4 (by simpa using h5) ?_
  · show (w.heap.modify g _)[g]? = _
    rw [Array.getElem?_eq_getElem (by rw [Array.size_modify]; exact hlt), Array.getElem_modify_self, hk]
    rfl
  · rw [Array.toList_setIfInBounds, List.length_set, List.take_set, h6, List.map_set]
theorem Arw.gb {w w' : World} {lo g c : Nat} {xs : List Int} {row : Option Nat} (h : Arw w lo g c xs) (hg : w.grownBy w' row) (hne : some g ≠ row) : Arw w' lo g c xs :=
  World.ownsRow.kept h hg (.inr (by simpa [Value.ownBlock] using hne))
theorem Arw.oth {w : World} {lo g c : Nat} {xs : List Int} (h : Arw w lo g c xs) {b k : Nat} (hne : b ≠ g) (u : Value) : Arw (w.setCell ⟨b, k, none⟩ u) lo g c xs := by
  obtain ⟨cur, h1, h2, h3⟩ := h.inv
  exact Arw.mk h1 ((Below.heap_setCell _ _ _ g (fun e => hne (by simpa using e.symm))).trans h2) h3.1 h3.2.1 h3.2.2.1 h3.2.2.2
theorem Arw.mono {w : World} {lo lo' g c : Nat} {xs : List Int} (h : Arw w lo g c xs) (hl : lo' ≤ lo) : Arw w lo' g c xs := by
  obtain ⟨cur, h1, h2, h3⟩ := h.inv
  exact Arw.mk (by omega) h2 h3.1 h3.2.1 h3.2.2.1 h3.2.2.2
theorem maxLen_eq' : maxLen = 9223372036854775807 := by decide
theorem Arw.ints {w : World} {lo g c : Nat} {xs : List Int} (h : Arw w lo g c xs) (m : Nat) (hm : g ≠ m) : Ints w w.heap.size m (.slice (some ⟨g, 0, none⟩) xs.length c) xs := by
  obtain ⟨cur, h1, h2, h3, h4, h5, h6⟩ := h.inv
  rw [maxLen_eq'] at h4
  exact ⟨_, _, rfl, h3, by omega, fun _ => ⟨g, 0, rfl, h.lt.2, hm, fun i x hi => by rw [Nat.zero_add]; exact h.cell hi⟩⟩
theorem Arw.made (w : World) (lo n : Nat) (hlo : lo ≤ w.heap.size) (hn : n ≤ 1073741824) : Arw (w.alloc (.cells (madeCells #[.int .i64 0] n) 3)) lo w.heap.size n (List.replicate n 0) := by
  have hsz : (madeCells #[Value.int .i64 0] n).size = n := by simp [madeCells]
  refine Arw.mk hlo (World.alloc_heap_new w _) (by simp) (by rw [maxLen_eq']; omega) hsz ?_
  rw [List.length_replicate, List.take_of_length_le (by rw [Array.length_toList, hsz]; omega)]
  apply List.ext_getElem?
  intro i
  by_cases hi : i < n
  · simp [madeCells, hi, Nat.mod_one]
  · simp [madeCells, hi]
theorem Arw.lit (w : World) (lo : Nat) (z : Int) (hlo : lo ≤ w.heap.size) : Arw (w.alloc (.cells #[.int .i64 z] 3)) lo w.heap.size 1 [z] :=
  Arw.mk hlo (World.alloc_heap_new w _) (by simp) (by rw [maxLen_eq']; omega) rfl rfl
end Go.Proofs.Ytejeiahbnnechaa
