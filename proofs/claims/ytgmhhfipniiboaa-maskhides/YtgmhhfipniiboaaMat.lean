import Derived.Test.YtgmhhfipniiboaaSml
import Derived.Test.YtgmhhfipniiboaaMkt
namespace Go.Proofs.Ytgmhhfipniiboaa
open Go.RowKit

/-- n numbers that may be written, from the head of a block on -/
structure Arr (w : World) (g n : Nat) (f : Nat → Int) : Prop where
  cells : ∀ i, i < n → w.cell? ⟨g, i, none⟩ = some (.int .i64 (f i))
  thaw : ∀ i, i < n → w.frozen? ⟨g, i, none⟩ = false
  lt : g < w.heap.size
theorem Arr.same {w w' : World} {g n : Nat} {f : Nat → Int} (h : Arr w g n f) (hk : w'.heap[g]? = w.heap[g]?) : Arr w' g n f :=
  ⟨fun i hi => (World.cell?_of_block (w := w) (a := ⟨g, i, none⟩) hk).trans (h.cells i hi), fun i hi => (World.frozen?_of_block (w := w) (a := ⟨g, i, none⟩) hk).trans (h.thaw i hi), by
    have h1 := h.lt
    rw [Array.getElem?_eq_getElem h1] at hk
    exact (Array.getElem?_eq_some_iff.1 hk).1⟩
theorem Arr.keep {w w' : World} {g n N : Nat} {f : Nat → Int} (h : Arr w g n f) (hb : Below N w w') (hg : g < N) : Arr w' g n f := h.same (hb.block g hg)
theorem Arr.at {w w' : World} {g n : Nat} {f : Nat → Int} (h : Arr w g n f) (hb : Below w.heap.size w w') : Arr w' g n f := h.keep hb h.lt
theorem Arr.gb {w w' : World} {g n : Nat} {row : Option Nat} {f : Nat → Int} (h : Arr w g n f) (hb : w.grownBy w' row) (hne : row ≠ some g) : Arr w' g n f := h.same (hb.block g h.lt (fun e => hne e.symm))
theorem Arr.congr {w : World} {g n : Nat} {f f' : Nat → Int} (h : Arr w g n f) (hf : ∀ i, i < n → f i = f' i) : Arr w g n f' := ⟨fun i hi => by rw [← hf i hi]; exact h.cells i hi, h.thaw, h.lt⟩
def upd (f : Nat → Int) (i : Nat) (x : Int) (j : Nat) : Int := if j = i then x else f j
theorem Arr.set {w : World} {g n : Nat} {f : Nat → Int} (h : Arr w g n f) (i : Nat) (hi : i < n) (x : Int) : Arr (w.setCell ⟨g, i, none⟩ (.int .i64 x)) g n (upd f i x) := by
  refine ⟨fun j hj => ?_, fun j hj => by rw [sc_frozen]; exact h.thaw j hj, by simpa using h.lt⟩
  by_cases e : j = i
  · subst e
    rw [upd, if_pos rfl]
    exact sc_same (h.cells j hi)
  · rw [upd, if_neg e, sc_other (fun h => e (congrArg Addr.off h).symm)]
    exact h.cells j hj
theorem Arr.beside {w : World} {g n : Nat} {f : Nat → Int} (h : Arr w g n f) {p : Addr} (hp : p.block ≠ g) (u : Value) : Arr (w.setCell p u) g n f :=
  ⟨fun i hi => by rw [sc_other (fun e => hp (congrArg Addr.block e))]; exact h.cells i hi, fun i hi => by rw [sc_frozen]; exact h.thaw i hi, by simpa using h.lt⟩
theorem Arr.made (w : World) (n g : Nat) (hg : g = w.heap.size) : Arr (w.alloc (.cells (madeCells #[.int .i64 0] n) 3)) g n (fun _ => 0) := by
  subst hg
  refine ⟨fun i hi => ?_, fun i _ => World.frozen?_alloc_at _ _ _ _ rfl, by simp⟩
  rw [World.cell?_alloc_at _ _ _ _ rfl]
  simp [madeCells, hi, Nat.mod_one]
theorem Arr.num {w : World} {g n c : Nat} {f : Nat → Int} (h : Arr w g n f) (hc : n ≤ c) (hn : n ≤ 9223372036854775807) : Num w w.heap.size (.slice (some ⟨g, 0, none⟩) n c) ((List.range n).map f) := by
  refine ⟨some ⟨g, 0, none⟩, c, by simp, by simpa using hc, by simpa using hn, fun _ => ⟨g, 0, rfl, h.lt, fun i x hi => ?_⟩⟩
  have h1 : i < n := by have := (List.getElem?_eq_some_iff.1 hi).1; simpa using this
  simp [h1] at hi
  rw [Nat.zero_add, h.cells i h1, hi]
theorem infoI : (Try.prog.info? 3).map (fun i => (i.zero, i.size, i.bytes)) = some (some (.int .i64 0), 1, 8) := by kernel_rfl
/-- 'make' of n numbers -/
theorem make_ints (n : Nat) (hn : n ≤ 1073741824) (u : World) : (Instr.makeSlice 22 (.int .i64 (n : Int)) (.int .i64 (n : Int))).run Try.prog u =
    .ok (.slice (some ⟨u.heap.size, 0, none⟩) n n) (u.alloc (.cells (madeCells #[.int .i64 0] n) 3)) := by
  obtain ⟨i0, hi, hz0, hz1, hz2⟩ := info_parts infoI
  have h := run_make (P := Try.prog) u 22 3 i0 (.int .i64 0) Try.underlying22 hi hz0 .i64 .i64 (n : Int) (n : Int) (by omega) (Int.le_refl _) (by rw [hz2]; omega) (by omega)
  rw [Int.toNat_natCast] at h
  simpa [hz1, Value.cells] using h

theorem infoR : (Try.prog.info? 22).map (fun i => (i.zero, i.size, i.bytes)) = some (some (.slice none 0 0), 1, 24) := by kernel_rfl
/-- 'make' of n rows -/
theorem make_rows (n : Nat) (hn : n ≤ 1073741824) (u : World) : (Instr.makeSlice 24 (.int .i64 (n : Int)) (.int .i64 (n : Int))).run Try.prog u =
    .ok (.slice (some ⟨u.heap.size, 0, none⟩) n n) (u.alloc (.cells (madeCells #[.slice none 0 0] n) 22)) := by
  obtain ⟨i0, hi, hz0, hz1, hz2⟩ := info_parts infoR
  have h := run_make (P := Try.prog) u 24 22 i0 (.slice none 0 0) Try.underlying24 hi hz0 .i64 .i64 (n : Int) (n : Int) (by omega) (Int.le_refl _) (by rw [hz2]; omega) (by omega)
  rw [Int.toNat_natCast] at h
  simpa [hz1, Value.cells] using h
/-- n rows of n numbers each, the first j of them made -/
structure Mat (w : World) (R n j : Nat) (F : Nat → Nat → Int) : Prop where
  cells : ∀ i, i < j → w.cell? ⟨R, i, none⟩ = some (.slice (some ⟨R + 1 + i, 0, none⟩) n n)
  nils : ∀ i, j ≤ i → i < n → w.cell? ⟨R, i, none⟩ = some (.slice none 0 0)
  thaw : ∀ i, i < n → w.frozen? ⟨R, i, none⟩ = false
  rows : ∀ i, i < j → Arr w (R + 1 + i) n (F i)
  lt : R < w.heap.size
theorem Mat.congr {w : World} {R n j : Nat} {F F' : Nat → Nat → Int} (h : Mat w R n j F) (hf : ∀ a b, a < j → b < n → F a b = F' a b) : Mat w R n j F' :=
  ⟨h.cells, h.nils, h.thaw, fun i hi => (h.rows i hi).congr fun b hb => hf i b hi hb, h.lt⟩
theorem Mat.at {w w' : World} {R n j : Nat} {F : Nat → Nat → Int} (h : Mat w R n j F) (hb : Below w.heap.size w w') : Mat w' R n j F :=
  ⟨fun i hi => (hb.cell (p := ⟨R, i, none⟩) h.lt).trans (h.cells i hi), fun i h1 h2 => (hb.cell (p := ⟨R, i, none⟩) h.lt).trans (h.nils i h1 h2), fun i hi => (hb.frozen (p := ⟨R, i, none⟩) h.lt).trans (h.thaw i hi), fun i hi => (h.rows i hi).at hb, Nat.lt_of_lt_of_le h.lt hb.size⟩
theorem Mat.made (w : World) (n R : Nat) (hR : R = w.heap.size) (F : Nat → Nat → Int) : Mat (w.alloc (.cells (madeCells #[.slice none 0 0] n) 22)) R n 0 F := by
  subst hR
  refine ⟨fun i hi => by omega, fun i _ hi => ?_, fun i _ => World.frozen?_alloc_at _ _ _ _ rfl, fun i hi => by omega, by simp⟩
  rw [World.cell?_alloc_at _ _ _ _ rfl]
  simp [madeCells, hi, Nat.mod_one]
theorem Mat.next {w : World} {R n j : Nat} (h : Mat w R n j (fun _ _ => 0)) (hj : j < n) (hs : w.heap.size = R + 1 + j) (g : Nat) (hg : g = w.heap.size) :
    Mat ((w.alloc (.cells (madeCells #[.int .i64 0] n) 3)).setCell ⟨R, j, none⟩ (.slice (some ⟨g, 0, none⟩) n n)) R n (j + 1) (fun _ _ => 0) := by
  have h1 : Mat (w.alloc (.cells (madeCells #[.int .i64 0] n) 3)) R n j (fun _ _ => 0) := h.at (ba _ _)
  have hA : Arr (w.alloc (.cells (madeCells #[.int .i64 0] n) 3)) (R + 1 + j) n (fun _ => 0) := Arr.made w n _ hs.symm
  have hge : g = R + 1 + j := by omega
  subst hge
  refine ⟨fun i hi => ?_, fun i h2 h3 => ?_, fun i hi => by rw [sc_frozen]; exact h1.thaw i hi, fun i hi => ?_, by simpa using h1.lt⟩
  · by_cases e : i = j
    · subst e
      exact sc_same (h1.nils i (Nat.le_refl _) hj)
    · rw [sc_other (fun h => e (congrArg Addr.off h).symm)]
      exact h1.cells i (by omega)
  · rw [sc_other (fun h => by have := congrArg Addr.off h; simp at this; omega)]
    exact h1.nils i (by omega) h3
  · by_cases e : i = j
    · subst e
      exact hA.beside (by simp; omega) _
    · exact (h1.rows i (by omega)).beside (by simp; omega) _
theorem Mat.set {w : World} {R n : Nat} {F : Nat → Nat → Int} (h : Mat w R n n F) (i k : Nat) (hi : i < n) (hk : k < n) (x : Int) : Mat (w.setCell ⟨R + 1 + i, k, none⟩ (.int .i64 x)) R n n (fun a b => if a = i ∧ b = k then x else F a b) := by
  refine ⟨fun a ha => by rw [sc_other (fun h => by have := congrArg Addr.block h; simp at this; omega)]; exact h.cells a ha, fun a h1 h2 => by omega, fun a ha => by rw [sc_frozen]; exact h.thaw a ha, fun a ha => ?_, by simpa using h.lt⟩
  by_cases e : a = i
  · subst e
    refine ((h.rows a ha).set k hk x).congr fun b _ => ?_
    unfold upd
    by_cases e2 : b = k
    · rw [if_pos e2, if_pos ⟨rfl, e2⟩]
    · rw [if_neg e2, if_neg (fun h => e2 h.2)]
  · refine ((h.rows a ha).beside (by simp; omega) _).congr fun b _ => ?_
    rw [if_neg (fun h => e h.1)]
theorem Mat.pair {w : World} {R n : Nat} {sh : Nat → Nat → Int} {i k : Nat} (h : Mat w R n n (stF sh i k)) (hik : i < k) (hk : k < n) (hsy : sh k i = sh i k) (x : Int) (hx : sh i k = x) :
    Mat ((w.setCell ⟨R + 1 + i, k, none⟩ (.int .i64 x)).setCell ⟨R + 1 + k, i, none⟩ (.int .i64 x)) R n n (stF sh i (k + 1)) := by
  refine ((h.set i k (by omega) hk x).set k i hk (by omega) x).congr fun a b _ _ => ?_
  subst hx
  unfold stF
  by_cases e1 : a = k ∧ b = i
  · obtain ⟨rfl, rfl⟩ := e1
    rw [if_pos ⟨rfl, rfl⟩, if_pos (by omega), hsy]
  · rw [if_neg e1]
    by_cases e2 : a = i ∧ b = k
    · obtain ⟨rfl, rfl⟩ := e2
      rw [if_pos ⟨rfl, rfl⟩, if_pos (by omega)]
    · rw [if_neg e2]
      by_cases e3 : (a < b ∧ (a < i ∨ (a = i ∧ b < k))) ∨ (b < a ∧ (b < i ∨ (b = i ∧ a < k)))
      · rw [if_pos e3, if_pos (by omega)]
      · rw [if_neg e3, if_neg (by omega)]
/-- as rows that came in -/
theorem Mat.rws {w : World} {R n : Nat} {F : Nat → Nat → Int} (h : Mat w R n n F) (hn : n ≤ 16) : ∃ ts : List Rw, Rws w w.heap.size (.slice (some ⟨R, 0, none⟩) n n) ts ∧ rr ts = mat n F ∧ ts.length = n := by
  refine ⟨(List.range n).map fun i => (.slice (some ⟨R + 1 + i, 0, none⟩) n n, rowF n (F i)), ⟨some ⟨R, 0, none⟩, n, by simp, by simp, by simp; omega, fun t ht => ?_, fun _ => ⟨R, 0, rfl, h.lt, fun i t ht => ?_⟩⟩, ?_, by simp⟩
  · obtain ⟨i, hi, rfl⟩ := List.mem_map.1 ht
    have := (h.rows i (List.mem_range.1 hi)).num (Nat.le_refl n) (by omega)
    exact this
  · have h1 : i < n := by have := (List.getElem?_eq_some_iff.1 ht).1; simpa using this
    simp [h1] at ht
    subst ht
    rw [Nat.zero_add]
    exact h.cells i h1
  · simp [rr, mat]
end Go.Proofs.Ytgmhhfipniiboaa
