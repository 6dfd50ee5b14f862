import Derived.Test.YtlndlpjadajelaaGreatQt04
import Derived.Test.YtlndlpjadajelaaGreatQt07
import Derived.Test.YtlndlpjadajelaaGreatQt01
import Derived.Maps.AppendAt
import Derived.Deep.RegionHeld3
import Derived.Deep.DeepCutAuto
import Derived.Deep.RegionLaw
namespace Go.Proofs.YtlndlpjadajelaaGreat
open Go.RowKit Go.Proofs.YtlndlpjadajelaaGreat.Ds

/-! ### subsets in memory: element i is the list of i alone, and its weight -/
/-- two cells an element -/
def fl2 (s : Nat → Nat) (f : Nat → Int) : Nat → List Value
  | 0 => []
  | n + 1 => fl2 s f n ++ [.slice (some ⟨s n, 0, none⟩) 1 1, .int .i64 (f n)]
theorem fl2_len (s : Nat → Nat) (f : Nat → Int) : ∀ n, (fl2 s f n).length = n * 2
  | 0 => rfl
  | n + 1 => by rw [fl2, List.length_append, fl2_len s f n]; simp; omega
theorem fl2_get (s : Nat → Nat) (f : Nat → Int) : ∀ {n i : Nat}, i < n → (fl2 s f n)[i * 2]? = some (.slice (some ⟨s i, 0, none⟩) 1 1) ∧ (fl2 s f n)[i * 2 + 1]? = some (.int .i64 (f i))
  | n + 1, i, h => by
    have hl := fl2_len s f n
    by_cases e : i = n
    · subst e
      rw [fl2, List.getElem?_append_right (by omega), List.getElem?_append_right (by omega), hl]
      simp
    · obtain ⟨h1, h2⟩ := fl2_get s f (show i < n by omega)
      rw [fl2, List.getElem?_append_left (by omega), List.getElem?_append_left (by omega)]
      exact ⟨h1, h2⟩
theorem fl2_congr {s s' : Nat → Nat} {f f' : Nat → Int} : ∀ {n : Nat}, (∀ i, i < n → s i = s' i ∧ f i = f' i) → fl2 s f n = fl2 s' f' n
  | 0, _ => rfl
  | n + 1, h => by rw [fl2, fl2, fl2_congr fun i hi => h i (by omega), (h n (by omega)).1, (h n (by omega)).2]
theorem fl2_one (s : Nat → Nat) (f : Nat → Int) : ∀ n, ∀ u ∈ fl2 s f n, u.oneCell' = true
  | 0, u, h => by cases h
  | n + 1, u, h => by
    rw [fl2] at h
    rcases List.mem_append.1 h with h | h
    · exact fl2_one s f n u h
    · simp at h
      rcases h with rfl | rfl <;> rfl
theorem fl2_add (s s' : Nat → Nat) (f f' : Nat → Int) (n : Nat) : ∀ m, fl2 s f n ++ fl2 s' f' m = fl2 (fun i => if i < n then s i else s' (i - n)) (fun i => if i < n then f i else f' (i - n)) (n + m)
  | 0 => by
    rw [fl2, List.append_nil, Nat.add_zero]
    exact fl2_congr fun i hi => ⟨by rw [if_pos hi], by rw [if_pos hi]⟩
  | m + 1 => by
    rw [fl2, ← List.append_assoc, fl2_add s s' f f' n m, ← Nat.add_assoc, fl2]
    simp
    exact ⟨fun h => absurd h (by omega), fun h => absurd h (by omega)⟩
theorem fl2_take {cur : Array Value} {s : Nat → Nat} {f : Nat → Int} {n : Nat} (hs : n * 2 ≤ cur.size) (h : ∀ i, i < n → cur[i * 2]? = some (.slice (some ⟨s i, 0, none⟩) 1 1) ∧ cur[i * 2 + 1]? = some (.int .i64 (f i))) : cur.toList.take (n * 2) = fl2 s f n := by
  refine List.ext_getElem? fun j => ?_
  by_cases hj : j < n * 2
  · rw [List.getElem?_take_of_lt hj, Array.getElem?_toList]
    obtain ⟨i, rfl | rfl⟩ : ∃ i, j = i * 2 ∨ j = i * 2 + 1 := ⟨j / 2, by omega⟩
    · rw [(h i (by omega)).1, (fl2_get s f (show i < n by omega)).1]
    · rw [(h i (by omega)).2, (fl2_get s f (show i < n by omega)).2]
  · rw [List.getElem?_eq_none (by simp; omega), List.getElem?_eq_none (by rw [fl2_len]; omega)]

structure Pz (w : World) (g cap n : Nat) (s : Nat → Nat) (f : Nat → Int) : Prop where
  le : n ≤ cap
  mx : cap ≤ maxLen
  blk : ∃ cur : Array Value, w.heap[g]? = some (.cells cur 82 (0, 0)) ∧ cur.size = cap * 2 ∧ ∀ i, i < n → cur[i * 2]? = some (.slice (some ⟨s i, 0, none⟩) 1 1) ∧ cur[i * 2 + 1]? = some (.int .i64 (f i))
theorem Pz.lt {w : World} {g cap n : Nat} {s : Nat → Nat} {f : Nat → Int} (h : Pz w g cap n s f) : g < w.heap.size := by
  obtain ⟨cur, h1, _⟩ := h.blk
  exact (Array.getElem?_eq_some_iff.1 h1).1
theorem Pz.same {w w' : World} {g cap n : Nat} {s : Nat → Nat} {f : Nat → Int} (h : Pz w g cap n s f) (hk : w'.heap[g]? = w.heap[g]?) : Pz w' g cap n s f :=
  ⟨h.le, h.mx, by obtain ⟨cur, h1, h2⟩ := h.blk; exact ⟨cur, hk.trans h1, h2⟩⟩
theorem Pz.at {w w' : World} {g cap n : Nat} {s : Nat → Nat} {f : Nat → Int} (h : Pz w g cap n s f) (hb : Below w.heap.size w w') : Pz w' g cap n s f := h.same (hb.block g h.lt)
theorem Pz.beside {w : World} {g cap n : Nat} {s : Nat → Nat} {f : Nat → Int} (h : Pz w g cap n s f) {p : Addr} (hp : g ≠ p.block) (u : Value) : Pz (w.setCell p u) g cap n s f := h.same (heap_setCell_other w p g u hp)
theorem Pz.cell {w : World} {g cap n : Nat} {s : Nat → Nat} {f : Nat → Int} (h : Pz w g cap n s f) {i : Nat} (hi : i < n) : w.cell? ⟨g, i * 2, none⟩ = some (.slice (some ⟨s i, 0, none⟩) 1 1) ∧ w.cell? ⟨g, i * 2 + 1, none⟩ = some (.int .i64 (f i)) := by
  obtain ⟨cur, h1, _, h3⟩ := h.blk
  obtain ⟨a, b⟩ := h3 i hi
  exact ⟨by simp [World.cell?, h1, a], by simp [World.cell?, h1, b]⟩
theorem Pz.thaw {w : World} {g cap n : Nat} {s : Nat → Nat} {f : Nat → Int} (h : Pz w g cap n s f) (j : Nat) : w.frozen? ⟨g, j, none⟩ = false := by
  obtain ⟨cur, h1, _⟩ := h.blk
  exact frozen_of_row w g j cur 82 h1
/-- a place that was not filled yet -/
theorem Pz.room {w : World} {g cap n : Nat} {s : Nat → Nat} {f : Nat → Int} (h : Pz w g cap n s f) {j : Nat} (hj : j < cap * 2) : ∃ v, w.cell? ⟨g, j, none⟩ = some v := by
  obtain ⟨cur, h1, h2, _⟩ := h.blk
  refine ⟨cur[j]'(by omega), ?_⟩
  simp [World.cell?, h1, Array.getElem?_eq_getElem (show j < cur.size by omega)]
theorem Pz.congr {w : World} {g cap n : Nat} {s s' : Nat → Nat} {f f' : Nat → Int} (h : Pz w g cap n s f) (hs : ∀ i, i < n → s i = s' i ∧ f i = f' i) : Pz w g cap n s' f' :=
  ⟨h.le, h.mx, by
    obtain ⟨cur, h1, h2, h3⟩ := h.blk
    exact ⟨cur, h1, h2, fun i hi => by rw [← (hs i hi).1, ← (hs i hi).2]; exact h3 i hi⟩⟩
theorem Pz.setW {w : World} {g cap n : Nat} {s : Nat → Nat} {f : Nat → Int} (h : Pz w g cap n s f) {j : Nat} (hj : j < n) (x : Int) : Pz (w.setCell ⟨g, j * 2 + 1, none⟩ (.int .i64 x)) g cap n s (fun i => if i = j then x else f i) := by
  refine ⟨h.le, h.mx, ?_⟩
  obtain ⟨cur, h1, h2, h3⟩ := h.blk
  have hle := h.le
  refine ⟨_, heap_setCell_same w g _ cur 82 _ h1, by simpa using h2, fun i hi => ⟨?_, ?_⟩⟩
  · rw [Array.getElem?_setIfInBounds_ne (by omega)]
    exact (h3 i hi).1
  · by_cases e : i = j
    · subst e
      rw [Array.getElem?_setIfInBounds_self_of_lt (by omega), if_pos rfl]
    · rw [Array.getElem?_setIfInBounds_ne (by omega), if_neg e]
      exact (h3 i hi).2
theorem Pz.more {w : World} {g cap n : Nat} {s : Nat → Nat} {f : Nat → Int} (h : Pz w g cap n s f) (hn : n < cap) (b : Nat) (x : Int) :
    Pz ((w.setCell ⟨g, n * 2, none⟩ (.slice (some ⟨b, 0, none⟩) 1 1)).setCell ⟨g, n * 2 + 1, none⟩ (.int .i64 x)) g cap (n + 1) (fun i => if i = n then b else s i) (fun i => if i = n then x else f i) := by
  refine ⟨by omega, h.mx, ?_⟩
  obtain ⟨cur, h1, h2, h3⟩ := h.blk
  refine ⟨_, heap_setCell_same _ g _ _ 82 _ (heap_setCell_same w g _ cur 82 _ h1), by simpa using h2, fun i hi => ?_⟩
  by_cases e : i = n
  · subst e
    refine ⟨?_, ?_⟩
    · rw [Array.getElem?_setIfInBounds_ne (by omega), Array.getElem?_setIfInBounds_self_of_lt (by omega), if_pos rfl]
    · rw [Array.getElem?_setIfInBounds_self_of_lt (by simp; omega), if_pos rfl]
  · refine ⟨?_, ?_⟩
    · rw [Array.getElem?_setIfInBounds_ne (by omega), Array.getElem?_setIfInBounds_ne (by omega), if_neg e]
      exact (h3 i (by omega)).1
    · rw [Array.getElem?_setIfInBounds_ne (by omega), Array.getElem?_setIfInBounds_ne (by omega), if_neg e]
      exact (h3 i (by omega)).2
theorem Pz.owns {w : World} {lo g cap n : Nat} {s : Nat → Nat} {f : Nat → Int} (h : Pz w g cap n s f) (hg : lo ≤ g) : w.ownsRow lo 82 2 (.slice (some ⟨g, 0, none⟩) n cap) n (fl2 s f n) := by
  obtain ⟨cur, h1, h2, h3⟩ := h.blk
  have hle := h.le
  exact ⟨fl2_len s f n, .inr ⟨g, cap, cur, rfl, hg, h1, h.le, h.mx, h2, fl2_take (by omega) h3⟩⟩
theorem Pz.of {w : World} {lo n : Nat} {v : Value} {s : Nat → Nat} {f : Nat → Int} (h : w.ownsRow lo 82 2 v n (fl2 s f n)) (hv : v ≠ .slice none 0 0) : ∃ g cap, v = .slice (some ⟨g, 0, none⟩) n cap ∧ lo ≤ g ∧ Pz w g cap n s f := by
  obtain ⟨_, ⟨hn, _⟩ | ⟨g, cap, cur, rfl, hg, h1, hle, hmx, hsz, ht⟩⟩ := h
  · exact absurd hn hv
  · refine ⟨g, cap, rfl, hg, hle, hmx, cur, h1, hsz, fun i hi => ?_⟩
    obtain ⟨a, b⟩ := fl2_get s f hi
    rw [← ht, List.getElem?_take_of_lt (by omega), Array.getElem?_toList] at a
    rw [← ht, List.getElem?_take_of_lt (by omega), Array.getElem?_toList] at b
    exact ⟨a, b⟩
theorem addr_add (g j : Nat) : (⟨g, 0, none⟩ : Addr).add j = ⟨g, j, none⟩ := by
  unfold Addr.add
  split <;> simp_all
theorem Pz.cells {w : World} {g cap n : Nat} {s : Nat → Nat} {f : Nat → Int} (h : Pz w g cap n s f) : ∀ j u, (fl2 s f n)[j]? = some u → w.cell? ((⟨g, 0, none⟩ : Addr).add j) = some u := by
  intro j u hj
  have hl := (List.getElem?_eq_some_iff.1 hj).1
  rw [fl2_len] at hl
  obtain ⟨i, rfl | rfl⟩ : ∃ i, j = i * 2 ∨ j = i * 2 + 1 := ⟨j / 2, by omega⟩
  · rw [(fl2_get s f (show i < n by omega)).1] at hj
    rw [← hj, addr_add]
    exact (h.cell (show i < n by omega)).1
  · rw [(fl2_get s f (show i < n by omega)).2] at hj
    rw [← hj, addr_add]
    exact (h.cell (show i < n by omega)).2

/-- the number in each element's list: i, from z on; in a block above lo, not g -/
structure Ez (w : World) (lo g n : Nat) (s : Nat → Nat) (z : Int) : Prop where
  lt : ∀ i, i < n → lo ≤ s i ∧ s i < w.heap.size ∧ s i ≠ g
  c : ∀ i, i < n → w.cell? ⟨s i, 0, none⟩ = some (.int .i64 ((i : Int) + z))
theorem Ez.at {w w' : World} {lo g n : Nat} {s : Nat → Nat} {z : Int} (h : Ez w lo g n s z) (hb : Below w.heap.size w w') : Ez w' lo g n s z :=
  ⟨fun i hi => ⟨(h.lt i hi).1, Nat.lt_of_lt_of_le (h.lt i hi).2.1 hb.size, (h.lt i hi).2.2⟩, fun i hi => (hb.cell (p := ⟨s i, 0, none⟩) (h.lt i hi).2.1).trans (h.c i hi)⟩
theorem Ez.set {w : World} {lo g n : Nat} {s : Nat → Nat} {z : Int} (h : Ez w lo g n s z) {p : Addr} (hp : ∀ i, i < n → s i ≠ p.block) (u : Value) : Ez (w.setCell p u) lo g n s z :=
  ⟨fun i hi => by simpa using h.lt i hi, fun i hi => (sc_other (fun e => hp i hi (congrArg Addr.block e).symm)).trans (h.c i hi)⟩
theorem Ez.gb {w w' : World} {lo g n : Nat} {s : Nat → Nat} {z : Int} (h : Ez w lo g n s z) (hg : w.grownBy w' (some g)) : Ez w' lo g n s z :=
  ⟨fun i hi => ⟨(h.lt i hi).1, Nat.lt_of_lt_of_le (h.lt i hi).2.1 hg.size, (h.lt i hi).2.2⟩, fun i hi => hg.cell (h.c i hi) fun e => (h.lt i hi).2.2 (by simpa using e)⟩
theorem Ez.more {w : World} {lo g n : Nat} {s : Nat → Nat} {z : Int} (h : Ez w lo g n s z) {b : Nat} (hb : lo ≤ b ∧ b < w.heap.size ∧ b ≠ g) (hc : w.cell? ⟨b, 0, none⟩ = some (.int .i64 ((n : Int) + z))) : Ez w lo g (n + 1) (fun i => if i = n then b else s i) z := by
  refine ⟨fun i hi => ?_, fun i hi => ?_⟩
  · by_cases e : i = n
    · simp only [if_pos e]; exact hb
    · simp only [if_neg e]; exact h.lt i (by omega)
  · by_cases e : i = n
    · subst e; simpa using hc
    · simp only [if_neg e]; exact h.c i (by omega)
/-- as parts -/
theorem Pz.parts {w : World} {lo g cap n : Nat} {s : Nat → Nat} {f : Nat → Int} (h : Pz w g cap n s f) (he : Ez w lo g n s 0) (hn : n ≤ 1073741824) : ∃ ts, rd ts = (List.range n).map (fun (i : Nat) => (([(i : Int)], f i) : Pt)) ∧ Parts w w.heap.size (.slice (some ⟨g, 0, none⟩) n cap) ts := by
  refine ⟨(List.range n).map fun i => (.slice (some ⟨s i, 0, none⟩) 1 1, [(i : Int)], f i), by simp [rd], some ⟨g, 0, none⟩, cap, by simp, by simpa using h.le, by simpa using hn, fun t ht => ?_, fun _ => ⟨g, 0, rfl, h.lt, fun i t ht => ?_⟩⟩
  · obtain ⟨i, hi, rfl⟩ := List.mem_map.1 ht
    have hi := List.mem_range.1 hi
    refine ⟨some ⟨s i, 0, none⟩, 1, rfl, Nat.le_refl _, by simp, fun _ => ⟨s i, 0, rfl, (he.lt i hi).2.1, Nat.ne_of_lt (he.lt i hi).2.1, fun j x hj => ?_⟩⟩
    have := he.c i hi
    cases j with
    | zero => simp at hj; subst hj; simpa using this
    | succ j => simp at hj
  · have hi : i < n := by have := (List.getElem?_eq_some_iff.1 ht).1; simpa using this
    simp [hi] at ht
    subst ht
    obtain ⟨a, b⟩ := h.cell hi
    rw [Nat.zero_add]
    exact ⟨a, b⟩
theorem Pz.made (w : World) (n g : Nat) (hg : g = w.heap.size) (hn : n ≤ maxLen) (s : Nat → Nat) (f : Nat → Int) : Pz (w.alloc (.cells (madeCells #[.slice none 0 0, .int .i64 0] (n * 2)) 82)) g n 0 s f := by
  subst hg
  exact ⟨Nat.zero_le _, hn, _, heap_alloc_new w _, by simp [madeCells], fun i hi => absurd hi (Nat.not_lt_zero _)⟩
theorem Pz.one (w : World) (g b : Nat) (hg : g = w.heap.size) (x : Int) : Pz (w.alloc (.cells #[.slice (some ⟨b, 0, none⟩) 1 1, .int .i64 x] 82)) g 1 1 (fun _ => b) (fun _ => x) := by
  subst hg
  refine ⟨Nat.le_refl _, by decide, _, heap_alloc_new w _, by simp, fun i hi => ?_⟩
  obtain rfl : i = 0 := by omega
  exact ⟨rfl, rfl⟩
end Go.Proofs.YtlndlpjadajelaaGreat

namespace Go.Proofs.YtlndlpjadajelaaGreat
open Go.RowKit Go.Proofs.YtlndlpjadajelaaGreat.Ds

theorem infoP : (Tryz.prog.info? 82).map (fun i => (i.zero, i.size, i.bytes)) = some (some (.agg #[.slice none 0 0, .int .i64 0]), 2, 32) := by kernel_rfl
theorem info_at {t : TypeId} {z : Value} {a b : Nat} (h : (Tryz.prog.info? t).map (fun i => (i.zero, i.size, i.bytes)) = some (some z, a, b)) : ∃ i, Tryz.prog.info? t = some i ∧ i.zero = some z ∧ i.size = a ∧ i.bytes = b := by
  cases hi : Tryz.prog.info? t with
  | none => rw [hi] at h; simp at h
  | some i => rw [hi] at h; simp at h; exact ⟨i, rfl, h.1, h.2.1, h.2.2⟩
theorem mkP (n : Nat) (hn : n ≤ 1073741824) (u : World) : (Instr.makeSlice 43 (.int .i64 (n : Int)) (.int .i64 (n : Int))).run Tryz.prog u = .ok (.slice (some ⟨u.heap.size, 0, none⟩) n n) (u.alloc (.cells (madeCells #[.slice none 0 0, .int .i64 0] (n * 2)) 82)) := by
  obtain ⟨i0, hi, hz0, hz1, hz2⟩ := info_at infoP
  have h := run_make (P := Tryz.prog) u 43 82 i0 (.agg #[.slice none 0 0, .int .i64 0]) Tryz.underlying43 hi hz0 .i64 .i64 (n : Int) (n : Int) (by omega) (Int.le_refl _) (by rw [hz2]; omega) (by omega)
  rw [Int.toNat_natCast] at h
  simpa [hz1, Value.cells] using h
/-- p in its box -/
def Bo (w : World) (b : Nat) (u d : Int) : Prop := b < w.heap.size ∧ w.cell? ⟨b, 0, none⟩ = some (.int .i64 u) ∧ w.cell? ⟨b, 1, none⟩ = some (.int .i64 d)
theorem Bo.at {w w' : World} {b : Nat} {u d : Int} (h : Bo w b u d) (hb : Below w.heap.size w w') : Bo w' b u d :=
  ⟨Nat.lt_of_lt_of_le h.1 hb.size, (hb.cell (p := ⟨b, 0, none⟩) h.1).trans h.2.1, (hb.cell (p := ⟨b, 1, none⟩) h.1).trans h.2.2⟩
theorem Bo.set {w : World} {b : Nat} {u d : Int} (h : Bo w b u d) {p : Addr} (hp : b ≠ p.block) (v : Value) : Bo (w.setCell p v) b u d :=
  ⟨by simpa using h.1, (sc_other (fun e => hp (congrArg Addr.block e).symm)).trans h.2.1, (sc_other (fun e => hp (congrArg Addr.block e).symm)).trans h.2.2⟩
theorem Bo.gb {w w' : World} {b g : Nat} {u d : Int} (h : Bo w b u d) (hg : w.grownBy w' (some g)) (hne : b ≠ g) : Bo w' b u d :=
  ⟨Nat.lt_of_lt_of_le h.1 hg.size, hg.cell h.2.1 (by simpa using hne), hg.cell h.2.2 (by simpa using hne)⟩

theorem fin9 {W : World} {lo q g cap n j : Nat} {s t : Nat → Nat} {F f : Nat → Int} {P1 u d : Int} (hP1 : f j = P1) (hj : j < n) (hlo : lo < q) (hgq : g < q) (hq : q < W.heap.size) (hs : ∀ x, x < n → s x < q) (h1 : Pz W g cap n s F) (h2 : Ez W (lo + 1) g n s 0) (h3 : Pz W q n j t f) (h4 : Ez W (q + 1) q j t (n : Int)) (h5 : Bo W lo u d) :
    ∃ t', Pz (((W.alloc (.cells #[.int .i64 ((j : Int) + n)] 3)).setCell ⟨q, j * 2, none⟩ (.slice (some ⟨W.heap.size, 0, none⟩) 1 1)).setCell ⟨q, j * 2 + 1, none⟩ (.int .i64 P1)).drew g cap n s F ∧
      Ez (((W.alloc (.cells #[.int .i64 ((j : Int) + n)] 3)).setCell ⟨q, j * 2, none⟩ (.slice (some ⟨W.heap.size, 0, none⟩) 1 1)).setCell ⟨q, j * 2 + 1, none⟩ (.int .i64 P1)).drew (lo + 1) g n s 0 ∧
      Pz (((W.alloc (.cells #[.int .i64 ((j : Int) + n)] 3)).setCell ⟨q, j * 2, none⟩ (.slice (some ⟨W.heap.size, 0, none⟩) 1 1)).setCell ⟨q, j * 2 + 1, none⟩ (.int .i64 P1)).drew q n (j + 1) t' f ∧
      Ez (((W.alloc (.cells #[.int .i64 ((j : Int) + n)] 3)).setCell ⟨q, j * 2, none⟩ (.slice (some ⟨W.heap.size, 0, none⟩) 1 1)).setCell ⟨q, j * 2 + 1, none⟩ (.int .i64 P1)).drew (q + 1) q (j + 1) t' (n : Int) ∧
      Bo (((W.alloc (.cells #[.int .i64 ((j : Int) + n)] 3)).setCell ⟨q, j * 2, none⟩ (.slice (some ⟨W.heap.size, 0, none⟩) 1 1)).setCell ⟨q, j * 2 + 1, none⟩ (.int .i64 P1)).drew lo u d := by
  obtain ⟨A, hA⟩ : ∃ A, W.alloc (.cells #[.int .i64 ((j : Int) + n)] 3) = A := ⟨_, rfl⟩
  have hb : Below W.heap.size W A := hA ▸ ba _ _
  have hc : A.cell? ⟨W.heap.size, 0, none⟩ = some (.int .i64 ((j : Int) + n)) := by rw [← hA]; simp [go_sem]
  have hl : W.heap.size < A.heap.size := by rw [← hA]; simp
  rw [hA]
  have k4 := (h4.at hb).more (b := W.heap.size) ⟨by omega, hl, by omega⟩ hc
  refine ⟨fun x => if x = j then W.heap.size else t x, ?_, ?_, ?_, ?_, ?_⟩
  · exact (((h1.at hb).beside (show g ≠ q by omega) _).beside (show g ≠ q by omega) _).same rfl
  · exact (((h2.at hb).set (p := ⟨q, j * 2, none⟩) (fun x hx => by have := hs x hx; show s x ≠ q; omega) _).set (p := ⟨q, j * 2 + 1, none⟩) (fun x hx => by have := hs x hx; show s x ≠ q; omega) _).at (Below.refl _ _).drew
  · exact (((h3.at hb).more hj W.heap.size P1).congr fun x _ => ⟨rfl, by by_cases e : x = j <;> simp [e, hP1]⟩).same rfl
  · exact ((k4.set (p := ⟨q, j * 2, none⟩) (fun x hx => (k4.lt x hx).2.2) _).set (p := ⟨q, j * 2 + 1, none⟩) (fun x hx => (k4.lt x hx).2.2) _).at (Below.refl _ _).drew
  · exact (((h5.at hb).set (p := ⟨q, j * 2, none⟩) (show lo ≠ q by omega) _).set (p := ⟨q, j * 2 + 1, none⟩) (show lo ≠ q by omega) _).at (Below.refl _ _).drew

theorem fin10 {W : World} {g cap n j i : Nat} {s : Nat → Nat} {u d P2 : Int} (hQ : Sb.wgt u d i j * (d - u) = P2) (hj : j < n) (h1 : Pz W g cap n s (fun x => if x < j then Sb.wgt u d i x * (d - u) else Sb.wgt u d i x)) :
    Pz (W.setCell ⟨g, j * 2 + 1, none⟩ (.int .i64 P2)).drew g cap n s (fun x => if x < j + 1 then Sb.wgt u d i x * (d - u) else Sb.wgt u d i x) := by
  refine ((h1.setW hj P2).congr fun x _ => ⟨rfl, ?_⟩).same rfl
  by_cases e : x = j
  · subst e
    rw [if_pos rfl, if_pos (by omega), hQ]
  · rw [if_neg e]
    by_cases e2 : x < j
    · rw [if_pos e2, if_pos (by omega)]
    · rw [if_neg e2, if_neg (by omega)]

theorem own_ge {lo g n c y : Nat} (h : lo + 1 ≤ g) (e : (Value.slice (some ⟨g, 0, none⟩) n c).ownBlock = some y) : lo ≤ y := by
  have e : g = y := by simpa [Value.ownBlock] using e
  omega
theorem finA {wr w' : World} {lo q g j i : Nat} {s t : Nat → Nat} {u d : Int} {v' : Value} (hj : j = 2 ^ i) (hlo : lo + 1 ≤ g) (hgq : g < q) (hq : q < wr.heap.size) (h2 : Ez wr (lo + 1) g j s 0) (h4 : Ez wr (q + 1) q j t (j : Int)) (h5 : Bo wr lo u d)
    (hown : w'.ownsRow lo 82 2 v' (j + j) (fl2 s (fun x => if x < j then Sb.wgt u d i x * (d - u) else Sb.wgt u d i x) j ++ fl2 t (fun x => Sb.wgt u d i x * u) j)) (hgr : wr.grownBy w' (some g)) (hnil : ¬ v' = .slice none 0 0) (hat : v'.ownBlock = some g ∨ v'.ownBlock = some wr.heap.size) :
    ∃ g' cap' s', v' = .slice (some ⟨g', 0, none⟩) (j + j) cap' ∧ lo + 1 ≤ g' ∧ Pz w' g' cap' (j + j) s' (fun x => Sb.wgt u d (i + 1) x) ∧ Ez w' (lo + 1) g' (j + j) s' 0 ∧ Bo w' lo u d := by
  rw [fl2_add] at hown
  obtain ⟨g', cap', rfl, _, hP⟩ := Pz.of hown hnil
  have hg' : g' = g ∨ g' = wr.heap.size := by simpa [Value.ownBlock] using hat
  have hsz := hgr.size
  have k2 := h2.gb hgr
  refine ⟨g', cap', _, rfl, by omega, hP.congr fun x hx => ⟨rfl, ?_⟩, ⟨fun x hx => ?_, fun x hx => ?_⟩, h5.gb hgr (by omega)⟩
  · by_cases e : x < j
    · simp only [if_pos e]
      rw [Sb.wgt_not u d (by omega)]
    · simp only [if_neg e]
      have := Sb.wgt_top u d (s := x - j) (k := i) (by omega)
      rw [← hj, show x - j + j = x by omega] at this
      rw [this]
  · by_cases e : x < j
    · simp only [if_pos e]
      have a := h2.lt x e
      omega
    · simp only [if_neg e]
      have a := h4.lt (x - j) (by omega)
      omega
  · by_cases e : x < j
    · simp only [if_pos e]
      exact k2.c x e
    · simp only [if_neg e]
      have a := h4.lt (x - j) (by omega)
      have c := h4.c (x - j) (by omega)
      rw [show ((x - j : Nat) : Int) + (j : Int) = (x : Int) + 0 by omega] at c
      exact hgr.cell c (fun h => absurd (show t (x - j) = g by simpa using h) (by omega))

set_option maxHeartbeats 4000000 in
set_option maxRecDepth 100000 in
theorem weighed_any (u d : Int) (k : Nat) (hk : k ≤ 10) (hu : 0 ≤ u) (hud : u ≤ d) (hd1 : 1 ≤ d) (hd : d ≤ 1073741824) (hm : d ^ k ≤ 1073741824) (w : World) :
    Calls Tryz.prog 114 #[rv u d, .int .i64 (k : Int)] w fun e w' => ∃ v ts, e = .returned v ∧ rd ts = Sb.lst u d k ∧ Parts w' w'.heap.size v ts ∧ Below w.heap.size w w' := by
  have HM : Hid (d ^ k ≤ 1073741824) := hm
  clear hm
  go_enter Tryz.func114, Tryz.ntmps114
  go_wp2
  go_loopw [5, 14] (fun v c wr => ∃ (i n g cap : Nat) (s : Nat → Nat), v = .slice (some ⟨g, 0, none⟩) n cap ∧ c = .int .i64 (i : Int) ∧ i ≤ k ∧ Hid (n = 2 ^ i) ∧ w.heap.size + 1 ≤ g ∧ n ≤ 1024 ∧ Hid (Pz wr g cap n s (fun j => Sb.wgt u d i j)) ∧ Hid (Ez wr (w.heap.size + 1) g n s 0) ∧ Hid (Bo wr w.heap.size u d) ∧ Below w.heap.size w wr) (fun _ c _ => k - (intOf c).toNat)
  case atStart =>
    refine ⟨0, 1, w.heap.size + 2, 1, fun _ => w.heap.size + 1, by simp, rfl, Nat.zero_le _, rfl, by omega, by decide, ?_, ?_, ?_, ?_⟩
    · exact Pz.one _ _ _ (by simp) 1
    · refine ⟨fun x hx => ⟨by omega, by simp, by omega⟩, fun x hx => ?_⟩
      obtain rfl : x = 0 := by omega
      simp [go_sem]
    · exact ⟨by simp; omega, by simp [go_sem], by simp [go_sem]⟩
    · exact bal (bal (ba _ _) _) _
  case round =>
    obtain ⟨i, n, g, cap, s, rfl, rfl, hik, HN, hg, hn, HP, HE, HB, hbl⟩ := hrel
    obtain ⟨wq, hwq⟩ : ∃ wq : World, wq = wr := ⟨_, rfl⟩
    subst hwq
    by_cases h1 : i < k
    · have hmk := mkP n (by omega)
      have HS : Hid (∀ x, x < n → s x < wq.heap.size) := fun x hx => (HE.out.lt x hx).2.1
      have hgl := HP.out.lt
      have hbs := HB.out.1
      go_wp2_with fail
      go_loopw [22] (fun c wr => ∃ (j : Nat) (t : Nat → Nat), c = .int .i64 (j : Int) ∧ j ≤ n ∧ Hid (Pz wr g cap n s (fun x => if x < j then Sb.wgt u d i x * (d - u) else Sb.wgt u d i x)) ∧ Hid (Ez wr (w.heap.size + 1) g n s 0) ∧ Hid (Pz wr wq.heap.size n j t (fun x => Sb.wgt u d i x * u)) ∧ Hid (Ez wr (wq.heap.size + 1) wq.heap.size j t (n : Int)) ∧ Hid (Bo wr w.heap.size u d) ∧ Below w.heap.size w wr ∧ wq.heap.size < wr.heap.size) (fun c _ => n - (intOf c).toNat)
      case atStart =>
        refine ⟨0, fun _ => 0, rfl, Nat.zero_le _, ?_, HE.out.at (ba _ _), Pz.made _ _ _ rfl (by unfold maxLen; omega) _ _, ⟨fun x hx => absurd hx (Nat.not_lt_zero _), fun x hx => absurd hx (Nat.not_lt_zero _)⟩, HB.out.at (ba _ _), bal hbl _, by simp⟩
        exact (HP.out.at (ba _ _)).congr fun x _ => ⟨rfl, by rw [if_neg (Nat.not_lt_zero _)]⟩
      case round =>
        obtain ⟨j, t, rfl, hjn, HP1, HE1, HP2, HE2, HB1, hbl1, hql⟩ := hrel
        by_cases h2 : j < n
        · obtain ⟨c0, c1⟩ := HP1.out.cell h2
          have c2 := HE1.out.c j h2
          rw [Int.add_zero] at c2
          simp only [Nat.lt_irrefl, if_false] at c1
          obtain ⟨P, hP⟩ : ∃ P, Sb.wgt u d i j = P := ⟨_, rfl⟩
          have hW := Sb.wgt_small hu hud hd1 HM.out (show i ≤ k by omega) j
          have hW1 := Sb.wgt_small hu hud hd1 HM.out (show i + 1 ≤ k by omega) j
          have hW2 := Sb.wgt_small hu hud hd1 HM.out (show i + 1 ≤ k by omega) (j + 2 ^ i)
          have hj2 : j < 2 ^ i := by have := HN.out; omega
          rw [Sb.wgt_not u d hj2] at hW1
          rw [Sb.wgt_top u d hj2] at hW2
          obtain ⟨P1, hP1⟩ : ∃ P1, P * u = P1 := ⟨_, rfl⟩
          obtain ⟨P2, hP2⟩ : ∃ P2, P * (d - u) = P2 := ⟨_, rfl⟩
          rw [hP] at c1 hW hW1 hW2
          rw [hP2] at hW1
          rw [hP1] at hW2
          have HQ : Hid (Sb.wgt u d i j = P ∧ P * u = P1 ∧ P * (d - u) = P2) := ⟨hP, hP1, hP2⟩
          have hsh : IntKind.i64.wrap (2 ^ i) = (n : Int) := by
            have e : ((2 : Int) ^ i) = (n : Int) := by rw [HN.out, Int.natCast_pow]; rfl
            rw [e]
            rw [IntKind.wrap_i64]; omega
          have hwj : IntKind.i64.wrap ((j : Int) + (n : Int)) = (j : Int) + (n : Int) := by rw [IntKind.wrap_i64]; omega
          have hwp : IntKind.i64.wrap P1 = P1 := by rw [IntKind.wrap_i64]; omega
          obtain ⟨sb, hsb⟩ : ∃ sb, s j = sb := ⟨_, rfl⟩
          have hs1 := (HE1.out.lt j h2).2
          have hs2 := HS.out j h2
          rw [hsb] at c0 c2 hs1 hs2
          obtain ⟨v0, r0⟩ := HP2.out.room (j := j * 2) (by omega)
          obtain ⟨v1, r1⟩ := HP2.out.room (j := j * 2 + 1) (by omega)
          have z0 := HP2.out.thaw (j * 2)
          have z1 := HP2.out.thaw (j * 2 + 1)
          obtain ⟨hb0, b0, b1⟩ := HB1.out
          clear hP hsb hj2
          go_upto_region 9 with fail
          obtain ⟨W, hW0⟩ : ∃ W, wr.alloc (.cells #[.slice (some ⟨sb, 0, none⟩) 1 1, .int .i64 P] 82) = W := ⟨_, rfl⟩
          have hbW : Below wr.heap.size wr W := hW0 ▸ ba _ _
          have hWs : W.heap.size = wr.heap.size + 1 := by rw [← hW0]; simp
          have e0 : W.cell? ⟨wr.heap.size, 0, none⟩ = some (.slice (some ⟨sb, 0, none⟩) 1 1) := by rw [← hW0]; simp [go_sem]
          have e1 : W.cell? ⟨wr.heap.size, 1, none⟩ = some (.int .i64 P) := by rw [← hW0]; simp [go_sem]
          have e2 : W.cell? ⟨sb, 0, none⟩ = some (.int .i64 (j : Int)) := (hbW.cell (p := ⟨sb, 0, none⟩) hs1.1).trans c2
          have e3 : W.cell? ⟨w.heap.size, 0, none⟩ = some (.int .i64 u) := (hbW.cell (p := ⟨w.heap.size, 0, none⟩) hb0).trans b0
          have e4 : W.cell? ⟨wq.heap.size, j * 2, none⟩ = some v0 := (hbW.cell (p := ⟨wq.heap.size, j * 2, none⟩) hql).trans r0
          have e5 : W.cell? ⟨wq.heap.size, j * 2 + 1, none⟩ = some v1 := (hbW.cell (p := ⟨wq.heap.size, j * 2 + 1, none⟩) hql).trans r1
          have e6 : W.frozen? ⟨wq.heap.size, j * 2, none⟩ = false := (hbW.frozen (p := ⟨wq.heap.size, j * 2, none⟩) hql).trans z0
          have e7 : W.frozen? ⟨wq.heap.size, j * 2 + 1, none⟩ = false := (hbW.frozen (p := ⟨wq.heap.size, j * 2 + 1, none⟩) hql).trans z1
          rw [hW0]
          clear hW0 c0 c1 c2 b0 b1 r0 r1 z0 z1
          have HPW1 : Hid (Pz W g cap n s (fun x => if x < j then Sb.wgt u d i x * (d - u) else Sb.wgt u d i x)) := HP1.out.at hbW
          have HEW1 : Hid (Ez W (w.heap.size + 1) g n s 0) := HE1.out.at hbW
          have HPW2 : Hid (Pz W wq.heap.size n j t (fun x => Sb.wgt u d i x * u)) := HP2.out.at hbW
          have HEW2 : Hid (Ez W (wq.heap.size + 1) wq.heap.size j t (n : Int)) := HE2.out.at hbW
          have HBW : Hid (Bo W w.heap.size u d) := HB1.out.at hbW
          have hblW : Below w.heap.size w W := bt hbl1 hbW
          have hqW : wq.heap.size < W.heap.size := by omega
          have ne1 : ¬ wr.heap.size = wq.heap.size := by omega
          have ne2 : ¬ sb = wq.heap.size := by omega
          have ne3 : ¬ w.heap.size = wq.heap.size := by omega
          have ne4 : ¬ wq.heap.size = wr.heap.size := by omega
          have ne5 : ¬ wq.heap.size = sb := by omega
          have ne6 : ¬ wq.heap.size = w.heap.size := by omega
          have lw1 : wr.heap.size < W.heap.size := by omega
          have lw2 : sb < W.heap.size := by omega
          have lw3 : w.heap.size < W.heap.size := by omega
          have f4 : ∀ o, (W.alloc o).cell? ⟨wq.heap.size, j * 2, none⟩ = some v0 := fun o => ((ba W o).cell (p := ⟨wq.heap.size, j * 2, none⟩) hqW).trans e4
          have f5 : ∀ o, (W.alloc o).cell? ⟨wq.heap.size, j * 2 + 1, none⟩ = some v1 := fun o => ((ba W o).cell (p := ⟨wq.heap.size, j * 2 + 1, none⟩) hqW).trans e5
          have f6 : ∀ o, (W.alloc o).frozen? ⟨wq.heap.size, j * 2, none⟩ = false := fun o => ((ba W o).frozen (p := ⟨wq.heap.size, j * 2, none⟩) hqW).trans e6
          have f7 : ∀ o, (W.alloc o).frozen? ⟨wq.heap.size, j * 2 + 1, none⟩ = false := fun o => ((ba W o).frozen (p := ⟨wq.heap.size, j * 2 + 1, none⟩) hqW).trans e7
          clear HP1 HE1 HP2 HE2 HB1 hbl1 hql
          go_cut [] (fun wx => ∃ t' : Nat → Nat, Hid (Pz wx g cap n s (fun x => if x < j then Sb.wgt u d i x * (d - u) else Sb.wgt u d i x)) ∧ Hid (Ez wx (w.heap.size + 1) g n s 0) ∧ Hid (Pz wx wq.heap.size n (j + 1) t' (fun x => Sb.wgt u d i x * u)) ∧ Hid (Ez wx (wq.heap.size + 1) wq.heap.size (j + 1) t' (n : Int)) ∧ Hid (Bo wx w.heap.size u d) ∧ Below w.heap.size w wx ∧ wq.heap.size < wx.heap.size)
          case first =>
            go_region_held3 (fun w' => w'.cell? ⟨wr.heap.size, 0, none⟩ = some (.slice (some ⟨sb, 0, none⟩) 1 1) ∧ w'.cell? ⟨wr.heap.size, 1, none⟩ = some (.int .i64 P) ∧ w'.cell? ⟨sb, 0, none⟩ = some (.int .i64 (j : Int)) ∧ w'.cell? ⟨w.heap.size, 0, none⟩ = some (.int .i64 u))
              ((go_split_ands; refine ⟨?_, ?_, ?_, ?_⟩ <;> first | with_reducible assumption | (simp [go_sem, *]; done)))
              (fail)
            go_wp2
            go_meet
            obtain ⟨t', q1, q2, q3, q4, q5⟩ := fin9 (W := W) (lo := w.heap.size) (q := wq.heap.size) (f := fun x => Sb.wgt u d i x * u) (P1 := P1) (by rw [HQ.out.1]; exact HQ.out.2.1) h2 hbs hgl hqW HS.out HPW1.out HEW1.out HPW2.out HEW2.out HBW.out
            rw [hWs] at q1 q2 q3 q4 q5
            exact ⟨t', q1, q2, q3, q4, q5, (bs (bs (bal hblW _) (by dsimp only; omega) _) (by dsimp only; omega) _).drew, by simp; omega⟩
          case rest =>
            obtain ⟨t', HC1, HC2, HC3, HC4, HC5, hblc, hqc⟩ := hcut
            obtain ⟨c0, c1⟩ := HC1.out.cell h2
            simp only [Nat.lt_irrefl, if_false] at c1
            rw [HQ.out.1] at c1
            have z1 := HC1.out.thaw (j * 2 + 1)
            obtain ⟨hb0, b0, b1⟩ := HC5.out
            clear e0 e1 e2 e3 e4 e5 e6 e7 f4 f5 f6 f7 HPW1 HEW1 HPW2 HEW2 HBW hblW hqW lw1 lw2 lw3 hbW hWs c0 hwj hwp hsh ne1 ne2 ne3 ne4 ne5 ne6
            have nb : ¬ w.heap.size = g := by omega
            have nb' : ¬ g = w.heap.size := by omega
            go_upto_region 10 with fail
            go_region_law (fail)
            all_goals (
              go_wp2
              go_roundw
              case rel => exact ⟨j + 1, t', by go_num, h2, fin10 (by rw [HQ.out.1]) h2 HC1.out, (HC2.out.set (p := ⟨g, j * 2 + 1, none⟩) (fun x hx => (HC2.out.lt x hx).2.2) _).at (Below.refl _ _).drew, (HC3.out.beside (show wq.heap.size ≠ g by omega) _).same rfl, (HC4.out.set (p := ⟨g, j * 2 + 1, none⟩) (fun x hx => by have := (HC4.out.lt x hx).1; show t' x ≠ g; omega) _).at (Below.refl _ _).drew, (HC5.out.set (p := ⟨g, j * 2 + 1, none⟩) (show w.heap.size ≠ g by omega) _).at (Below.refl _ _).drew, (bs hblc (by dsimp only; omega) _).drew, by simpa using hqc⟩
              case measure => simp [intOf]; omega)
        · obtain rfl : j = n := by omega
          obtain ⟨ip, hip, hz0, hz1, hz2⟩ := info_at infoP
          have HO := (HP1.out.owns (lo := w.heap.size) (by omega))
          have hcl := HP2.out.cells
          have h1c := fl2_one t (fun x => Sb.wgt u d i x * u) j
          have hfl := fl2_len t (fun x => Sb.wgt u d i x * u) j
          go_wp2_with (at_builtin; refine wpList_append_own_at _ rfl _ _ 43 rfl w.heap.size 82 ip (.agg #[.slice none 0 0, .int .i64 0]) 2 32 Tryz.underlying43 hip hz0 hz1 hz2 rfl (by decide) (.slice (some ⟨g, 0, none⟩) j cap) j _ rfl HO ⟨wq.heap.size, 0, none⟩ j j _ rfl hfl hcl h1c (by unfold maxLen; omega) (by omega) (by omega) ?_)
          intro v' w' hown hgr hnil hat
          obtain ⟨g', cap', s', rfl, hg', HP', HE', HB'⟩ := finA HN.out hg hgl hql HE1.out HE2.out HB1.out hown hgr hnil hat
          have HN' : Hid (j + j = 2 ^ (i + 1)) := by show _ = _; rw [Nat.pow_succ, ← HN.out]; omega
          have hle : j + j ≤ 1024 := by rw [HN'.out]; exact Sb.two_le (by omega)
          have hbl' : Below w.heap.size w w' := hbl1.grown hgr hbl1.size (fun y e => own_ge hg e)
          have HP2' : Hid (Pz w' g' cap' (j + j) s' (fun x => Sb.wgt u d (i + 1) x)) := HP'
          have HE2' : Hid (Ez w' (w.heap.size + 1) g' (j + j) s' 0) := HE'
          have HB2' : Hid (Bo w' w.heap.size u d) := HB'
          clear HP' HE' HB' hown hgr hat hnil HO hcl h1c hfl HP1 HE1 HP2 HE2 HB1
          go_wp2
          go_roundw
          case rel => exact ⟨i + 1, j + j, g', cap', s', rfl, by go_num, h1, HN', hg', hle, HP2', HE2', HB2', hbl'⟩
          case measure => simp [intOf]; omega
    · obtain rfl : i = k := by omega
      obtain ⟨ts, hts, hpt⟩ := HP.out.parts HE.out (by omega)
      have HZ : Hid (rd ts = Sb.lst u d i ∧ Parts wq wq.heap.size (.slice (some ⟨g, 0, none⟩) n cap) ts) := ⟨by rw [hts, HN.out]; rfl, hpt⟩
      clear hts hpt
      go_wp2
      go_ret
      exact ⟨_, ts, rfl, HZ.out.1, HZ.out.2, hbl⟩
end Go.Proofs.YtlndlpjadajelaaGreat
