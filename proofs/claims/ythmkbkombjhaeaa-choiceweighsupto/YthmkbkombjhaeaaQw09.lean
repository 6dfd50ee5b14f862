import Derived.Test.YthmkbkombjhaeaaQw08
import Derived.Laws.IdiomCopy
import Derived.Shelf.SlSortCmp.WholeK
import Derived.Shelf.SlicesE.Clone
import Derived.Shelf.SlLaysE0
import Derived.Shelf.SlGeneric
import Derived.Ground.SlsfProg
import Derived.Ground.SlgnProg
import Derived.Test.YthmkbkombjhaeaaProg
namespace Go.Proofs.Ythmkbkombjhaeaa
open Go.RowKit Go.Proofs.Ythmkbkombjhaeaa.Ds

theorem sc_other {w : World} {a b : Addr} {v : Value} (h : a ≠ b) : (w.setCell a v).cell? b = w.cell? b := World.cell?_setCell_other _ _ _ _ h
theorem sc_same {w : World} {a : Addr} {u v : Value} (h : w.cell? a = some u) : (w.setCell a v).cell? a = some v := World.cell?_setCell_same _ _ _ h
theorem sc_frozen {w : World} {a b : Addr} {v : Value} : (w.setCell a v).frozen? b = w.frozen? b := World.frozen?_setCell _ _ _ _

/-- A ROW OF PARTS THAT MAY BE WRITTEN. -/
structure Row (w : World) (b o : Nat) (us : List Tr) : Prop where
  cells : Cells w b o us
  thaw : ∀ j, j < us.length * 2 → w.frozen? ⟨b, o + j, none⟩ = false
  lt : b < w.heap.size

theorem Row.keep {w w' : World} {b o : Nat} {us : List Tr} (h : Row w b o us) (hb : Below w.heap.size w w') : Row w' b o us :=
  ⟨h.cells.keep hb h.lt, fun j hj => (hb.frozen (p := ⟨b, o + j, none⟩) h.lt).trans (h.thaw j hj), Nat.lt_of_lt_of_le h.lt hb.size⟩

/-- .. where some block alone has turned, another one -/
theorem Row.beside {w w' : World} {b o g : Nat} {us : List Tr} (h : Row w b o us) (hg : w.grownBy w' (some g)) (hne : b ≠ g) : Row w' b o us := by
  have hk : w'.heap[b]? = w.heap[b]? := hg.block b h.lt (by simp; omega)
  exact ⟨fun i t ht => ⟨(World.cell?_of_block (w := w) (a := ⟨b, o + i * 2, none⟩) hk).trans (h.cells i t ht).1, (World.cell?_of_block (w := w) (a := ⟨b, o + i * 2 + 1, none⟩) hk).trans (h.cells i t ht).2⟩,
    fun j hj => (World.frozen?_of_block (w := w) (a := ⟨b, o + j, none⟩) hk).trans (h.thaw j hj), Nat.lt_of_lt_of_le h.lt hg.size⟩

theorem Cells.len_cell {w : World} {b o : Nat} {us : List Tr} (h : Cells w b o us) {i : Nat} (hi : i < us.length) : (w.cell? ⟨b, o + i * 2, none⟩).isSome = true ∧ (w.cell? ⟨b, o + i * 2 + 1, none⟩).isSome = true := by
  obtain ⟨t, ht⟩ := get_lt hi
  obtain ⟨h1, h2⟩ := h i t ht
  exact ⟨by rw [h1]; rfl, by rw [h2]; rfl⟩

/-- a weight is stored -/
theorem Row.setW {w : World} {b o : Nat} {us : List Tr} (h : Row w b o us) {i : Nat} {t : Tr} (ht : us[i]? = some t) (k : Int) :
    Row (w.setCell ⟨b, o + i * 2 + 1, none⟩ (.int .i64 k)) b o (us.set i (t.1, t.2.1, k)) := by
  have hi := (List.getElem?_eq_some_iff.1 ht).1
  refine ⟨fun j u hu => ?_, fun j hj => by rw [sc_frozen]; exact h.thaw j (by simpa using hj), by simpa using h.lt⟩
  by_cases hj : i = j
  · subst hj
    rw [List.getElem?_set_self hi] at hu
    obtain rfl : (t.1, t.2.1, k) = u := by simpa using hu
    have c := h.cells i t ht
    exact ⟨by rw [sc_other (by simp)]; exact c.1, sc_same c.2⟩
  · rw [List.getElem?_set_ne hj] at hu
    have c := h.cells j u hu
    exact ⟨by rw [sc_other (by simp <;> omega)]; exact c.1, by rw [sc_other (by simp <;> omega)]; exact c.2⟩

/-- a part is stored -/
theorem Row.setP {w : World} {b o : Nat} {us : List Tr} (h : Row w b o us) {i : Nat} (hi : i < us.length) (t : Tr) :
    Row (w.setCells b (o + i * 2) [t.1, .int .i64 t.2.2]) b o (us.set i t) := by
  have hs := h.cells.len_cell hi
  have e1 : ∀ a : Addr, (w.setCells b (o + i * 2) [t.1, .int .i64 t.2.2]).cell? a = ((w.setCell ⟨b, o + i * 2, none⟩ t.1).setCell ⟨b, o + i * 2 + 1, none⟩ (.int .i64 t.2.2)).cell? a := fun a => rfl
  refine ⟨fun j u hu => ?_, fun j hj => by rw [World.frozen?_setCells]; exact h.thaw j (by simpa using hj), ?_⟩
  · rw [e1, e1]
    by_cases hj : i = j
    · subst hj
      rw [List.getElem?_set_self hi] at hu
      obtain rfl : t = u := by simpa using hu
      refine ⟨?_, ?_⟩
      · rw [sc_other (by simp)]
        exact World.cell?_setCell_same' _ _ _ hs.1
      · refine World.cell?_setCell_same' _ _ _ ?_
        rw [sc_other (by simp)]
        exact hs.2
    · rw [List.getElem?_set_ne hj] at hu
      have c := h.cells j u hu
      exact ⟨by rw [sc_other (by simp <;> omega), sc_other (by simp <;> omega)]; exact c.1, by rw [sc_other (by simp <;> omega), sc_other (by simp <;> omega)]; exact c.2⟩
  · show b < (((w.setCell ⟨b, o + i * 2, none⟩ t.1).setCell ⟨b, o + i * 2 + 1, none⟩ (.int .i64 t.2.2))).heap.size
    simpa using h.lt

/-- PARTS IN MEMORY OF ONE's OWN, from block lo on; their lists lie elsewhere. -/
def Own (w : World) (lo : Nat) (v : Value) (ts : List Tr) : Prop :=
  ∃ b o c, v = .slice (some ⟨b, o, none⟩) ts.length c ∧ ts.length ≤ c ∧ ts.length ≤ 1073741824 ∧ lo ≤ b ∧ Row w b o ts ∧ ∀ t ∈ ts, Ints w w.heap.size b t.1 t.2.1

theorem Own.parts {w : World} {lo : Nat} {v : Value} {ts : List Tr} (h : Own w lo v ts) : Parts w w.heap.size v ts := by
  obtain ⟨b, o, c, hv, hc, hl, _, hr, hi⟩ := h
  refine ⟨_, c, hv, hc, hl, fun t ht => ?_, fun _ => ⟨b, o, rfl, hr.lt, hr.cells⟩⟩
  exact (hi t ht).mono (Nat.le_refl _) (.inr (Nat.le_refl _))

theorem Own.keep {w w' : World} {lo : Nat} {v : Value} {ts : List Tr} (h : Own w lo v ts) (hb : Below w.heap.size w w') : Own w' lo v ts := by
  obtain ⟨b, o, c, hv, hc, hl, hlo, hr, hi⟩ := h
  exact ⟨b, o, c, hv, hc, hl, hlo, hr.keep hb, fun t ht => ((hi t ht).keep hb).mono hb.size (.inl rfl)⟩

theorem Own.mono {w : World} {lo lo' : Nat} {v : Value} {ts : List Tr} (h : Own w lo v ts) (hl : lo' ≤ lo) : Own w lo' v ts := by
  obtain ⟨b, o, c, hv, hc, hl', hlo, hr, hi⟩ := h
  exact ⟨b, o, c, hv, hc, hl', by omega, hr, hi⟩

/-- the lists lie in blocks from lo on -/
def Frs (lo : Nat) (ts : List Tr) : Prop := ∀ t ∈ ts, t.2.1 ≠ [] → ∀ b o sp n c, t.1 = .slice (some ⟨b, o, sp⟩) n c → lo ≤ b
theorem Frs.mono {lo lo' : Nat} {ts : List Tr} (h : Frs lo ts) (hl : lo' ≤ lo) : Frs lo' ts := fun t ht hne b o sp n c e => Nat.le_trans hl (h t ht hne b o sp n c e)
theorem Frs.of {lo : Nat} {ts us : List Tr} (h : Frs lo ts) (hu : ∀ t ∈ us, ∃ u ∈ ts, t.1 = u.1 ∧ t.2.1 = u.2.1) : Frs lo us := by
  intro t ht hne b o sp n c e
  obtain ⟨u, hu1, e1, e2⟩ := hu t ht
  exact h u hu1 (e2 ▸ hne) b o sp n c (e1 ▸ e)
theorem Frs.nil (lo : Nat) : Frs lo [] := fun t ht => by cases ht
theorem fr_of {w : World} {B lo : Nat} {s : Value} {xs : List Int} (h : ∀ m, m < lo → Ints w B m s xs) : xs ≠ [] → ∀ b o sp n c, s = .slice (some ⟨b, o, sp⟩) n c → lo ≤ b := by
  intro hne b o sp n c e
  rcases Nat.lt_or_ge b lo with hb | hb
  · obtain ⟨a, c', hv, _, _, hx⟩ := h b hb
    obtain ⟨b', o', ha, _, hn, _⟩ := hx hne
    rw [hv, ha] at e
    simp only [Value.slice.injEq, Option.some.injEq, Addr.mk.injEq] at e
    exact absurd e.1.1 hn
  · exact hb

theorem parts_nil (w : World) (B : Nat) : Parts w B (.slice none 0 0) [] := ⟨none, 0, rfl, Nat.le_refl _, by simp, by simp, fun h => absurd rfl h⟩

end Go.Proofs.Ythmkbkombjhaeaa

namespace Go.Proofs.Ythmkbkombjhaeaa
open Go.RowKit Go.Proofs.Ythmkbkombjhaeaa.Ds

theorem infoI : (Try.prog.info? 3).map (fun i => (i.zero, i.size, i.bytes)) = some (some (.int .i64 0), 1, 8) := by kernel_rfl
theorem infoB : (Try.prog.info? 4).map (fun i => (i.zero, i.size, i.bytes)) = some (some (.bool false), 1, 1) := by kernel_rfl
/-- a row of numbers that may be written -/
structure RowI (w : World) (g : Nat) (xs : List Int) : Prop where
  cells : ∀ i x, xs[i]? = some x → w.cell? ⟨g, i, none⟩ = some (.int .i64 x)
  thaw : ∀ i, i < xs.length → w.frozen? ⟨g, i, none⟩ = false
  lt : g < w.heap.size
theorem RowI.keep {w w' : World} {g N : Nat} {xs : List Int} (h : RowI w g xs) (hb : Below N w w') (hg : g < N) : RowI w' g xs :=
  ⟨fun i x hi => (hb.cell (p := ⟨g, i, none⟩) hg).trans (h.cells i x hi), fun i hi => (hb.frozen (p := ⟨g, i, none⟩) hg).trans (h.thaw i hi), Nat.lt_of_lt_of_le h.lt hb.size⟩
theorem RowI.set {w : World} {g : Nat} {xs : List Int} (h : RowI w g xs) (i : Nat) (k : Int) : RowI (w.setCell ⟨g, i, none⟩ (.int .i64 k)) g (xs.set i k) := by
  refine ⟨fun j x hj => ?_, fun j hj => by rw [sc_frozen]; exact h.thaw j (by simpa using hj), by simpa using h.lt⟩
  by_cases e : i = j
  · subst e
    have hi : i < xs.length := by have := (List.getElem?_eq_some_iff.1 hj).1; simpa using this
    rw [List.getElem?_set_self hi] at hj
    obtain rfl : k = x := by simpa using hj
    obtain ⟨y, hy⟩ := get_lt hi
    exact sc_same (h.cells i y hy)
  · rw [List.getElem?_set_ne e] at hj
    rw [sc_other (fun h => e (congrArg Addr.off h))]
    exact h.cells j x hj
theorem RowI.made (w : World) (n : Nat) : RowI (w.alloc (.cells (madeCells #[.int .i64 0] n) 3)) w.heap.size (List.replicate n 0) := by
  refine ⟨fun i x hi => ?_, fun i _ => World.frozen?_alloc_at _ _ _ _ rfl, by simp⟩
  have h1 : i < n := by have := (List.getElem?_eq_some_iff.1 hi).1; simpa using this
  obtain rfl : x = 0 := by
    have := (List.getElem?_eq_some_iff.1 hi).2; simp at this; exact this.symm
  rw [World.cell?_alloc_at _ _ _ _ rfl]
  simp [madeCells, h1, Nat.mod_one]
theorem RowI.ints {w : World} {g : Nat} {xs : List Int} (h : RowI w g xs) (hl : xs.length ≤ 1073741824) : ∀ m, m < g → Ints w w.heap.size m (.slice (some ⟨g, 0, none⟩) xs.length xs.length) xs :=
  fun m hm => ⟨_, _, rfl, Nat.le_refl _, hl, fun _ => ⟨g, 0, rfl, h.lt, by omega, fun i x hi => by rw [Nat.zero_add]; exact h.cells i x hi⟩⟩

/-- 'make' of n numbers -/
theorem make_ints (n : Nat) (hn : n ≤ 1073741824) (u : World) : (Instr.makeSlice 24 (.int .i64 (n : Int)) (.int .i64 (n : Int))).run Try.prog u =
    .ok (.slice (some ⟨u.heap.size, 0, none⟩) n n) (u.alloc (.cells (madeCells #[.int .i64 0] n) 3)) := by
  obtain ⟨i0, hi, hz0, hz1, hz2⟩ := info_parts infoI
  have h := run_make (P := Try.prog) u 24 3 i0 (.int .i64 0) Try.underlying24 hi hz0 .i64 .i64 (n : Int) (n : Int) (by omega) (Int.le_refl _) (by rw [hz2]; omega) (by omega)
  rw [Int.toNat_natCast] at h
  simpa [hz1, Value.cells] using h

theorem RowI.num {w : World} {g : Nat} {xs : List Int} (h : RowI w g xs) (hl : xs.length ≤ 1073741824) {B : Nat} (hB : g < B) : Num w B (.slice (some ⟨g, 0, none⟩) xs.length xs.length) xs :=
  ⟨_, _, rfl, Nat.le_refl _, by omega, fun _ => ⟨g, 0, rfl, hB, fun i x hi => by rw [Nat.zero_add]; exact h.cells i x hi⟩⟩
theorem RowI.beside {w : World} {g : Nat} {xs : List Int} (h : RowI w g xs) {p : Addr} (hp : p.block ≠ g) (u : Value) : RowI (w.setCell p u) g xs :=
  ⟨fun i x hi => by rw [sc_other (fun e => hp (congrArg Addr.block e))]; exact h.cells i x hi, fun i hi => by rw [sc_frozen]; exact h.thaw i hi, by simpa using h.lt⟩

/-- a row of yes and no that may be written -/
structure RowB (w : World) (g : Nat) (xs : List Bool) : Prop where
  cells : ∀ i x, xs[i]? = some x → w.cell? ⟨g, i, none⟩ = some (.bool x)
  thaw : ∀ i, i < xs.length → w.frozen? ⟨g, i, none⟩ = false
  lt : g < w.heap.size
theorem RowB.keep {w w' : World} {g N : Nat} {xs : List Bool} (h : RowB w g xs) (hb : Below N w w') (hg : g < N) : RowB w' g xs :=
  ⟨fun i x hi => (hb.cell (p := ⟨g, i, none⟩) hg).trans (h.cells i x hi), fun i hi => (hb.frozen (p := ⟨g, i, none⟩) hg).trans (h.thaw i hi), Nat.lt_of_lt_of_le h.lt hb.size⟩
theorem RowB.set {w : World} {g : Nat} {xs : List Bool} (h : RowB w g xs) (i : Nat) (k : Bool) : RowB (w.setCell ⟨g, i, none⟩ (.bool k)) g (xs.set i k) := by
  refine ⟨fun j x hj => ?_, fun j hj => by rw [sc_frozen]; exact h.thaw j (by simpa using hj), by simpa using h.lt⟩
  by_cases e : i = j
  · subst e
    have hi : i < xs.length := by have := (List.getElem?_eq_some_iff.1 hj).1; simpa using this
    rw [List.getElem?_set_self hi] at hj
    obtain rfl : k = x := by simpa using hj
    obtain ⟨y, hy⟩ := get_lt hi
    exact sc_same (h.cells i y hy)
  · rw [List.getElem?_set_ne e] at hj
    rw [sc_other (fun h => e (congrArg Addr.off h))]
    exact h.cells j x hj
theorem RowB.beside {w : World} {g : Nat} {xs : List Bool} (h : RowB w g xs) {p : Addr} (hp : p.block ≠ g) (u : Value) : RowB (w.setCell p u) g xs :=
  ⟨fun i x hi => by rw [sc_other (fun e => hp (congrArg Addr.block e))]; exact h.cells i x hi, fun i hi => by rw [sc_frozen]; exact h.thaw i hi, by simpa using h.lt⟩
theorem RowB.made (w : World) (n : Nat) : RowB (w.alloc (.cells (madeCells #[.bool false] n) 4)) w.heap.size (List.replicate n false) := by
  refine ⟨fun i x hi => ?_, fun i _ => World.frozen?_alloc_at _ _ _ _ rfl, by simp⟩
  have h1 : i < n := by have := (List.getElem?_eq_some_iff.1 hi).1; simpa using this
  obtain rfl : x = false := by
    have := (List.getElem?_eq_some_iff.1 hi).2; simp at this; exact this
  rw [World.cell?_alloc_at _ _ _ _ rfl]
  simp [madeCells, h1, Nat.mod_one]
/-- 'make' of n yes or no -/
theorem make_bools (n : Nat) (hn : n ≤ 1073741824) (u : World) : (Instr.makeSlice 57 (.int .i64 (n : Int)) (.int .i64 (n : Int))).run Try.prog u =
    .ok (.slice (some ⟨u.heap.size, 0, none⟩) n n) (u.alloc (.cells (madeCells #[.bool false] n) 4)) := by
  obtain ⟨i0, hi, hz0, hz1, hz2⟩ := info_parts infoB
  have h := run_make (P := Try.prog) u 57 4 i0 (.bool false) Try.underlying57 hi hz0 .i64 .i64 (n : Int) (n : Int) (by omega) (Int.le_refl _) (by rw [hz2]; omega) (by omega)
  rw [Int.toNat_natCast] at h
  simpa [hz1, Value.cells] using h

/-! ### a list that is made place by place -/
def mkd (f : Nat → Int) (n k : Nat) : List Int := (List.range n).map fun i => if i < k then f i else 0
theorem mkd_len (f : Nat → Int) (n k : Nat) : (mkd f n k).length = n := by simp [mkd]
theorem mkd_zero (f : Nat → Int) (n : Nat) : mkd f n 0 = List.replicate n 0 := by
  unfold mkd
  refine List.ext_getElem (by simp) fun i h1 h2 => by simp
theorem mkd_all (f : Nat → Int) {n k : Nat} (h : n ≤ k) : mkd f n k = (List.range n).map f := by
  unfold mkd
  refine List.map_congr_left fun i hi => ?_
  have := List.mem_range.1 hi
  rw [if_pos (by omega)]
theorem mkd_get (f : Nat → Int) {n k i : Nat} (hi : i < n) : (mkd f n k)[i]? = some (if i < k then f i else 0) := by
  simp [mkd, hi]
theorem mkd_set (f : Nat → Int) {n k : Nat} (h : k < n) : (mkd f n k).set k (f k) = mkd f n (k + 1) := by
  refine List.ext_getElem? fun i => ?_
  by_cases e : k = i
  · subst e
    rw [List.getElem?_set_self (by rw [mkd_len]; exact h), mkd_get f h, if_pos (by omega)]
  · rw [List.getElem?_set_ne e]
    by_cases hi : i < n
    · rw [mkd_get f hi, mkd_get f hi]
      by_cases c : i < k
      · rw [if_pos c, if_pos (by omega)]
      · rw [if_neg c, if_neg (by omega)]
    · rw [List.getElem?_eq_none (by rw [mkd_len]; omega), List.getElem?_eq_none (by rw [mkd_len]; omega)]
end Go.Proofs.Ythmkbkombjhaeaa

/-
  DERIVED: THE SHELF's CONTRACTS AT THIS DUMP, IN PLAIN WORDS (tools/lay-plain.mjs out of 'YthmkbkombjhaeaaShelf.lean', which tools/lay-shelf.mjs wrote): THE SAME DECLARATIONS UNDER THE SAME NAMES: 'import', 'namespace', 'open', 'def', 'theorem' AND NOTHING ELSE: no command of the shelf's: FOR A HAND-IN. Each laying: the table of numbers ('.._ren') and one theorem, a field a fact of the dump's own or the kernel's comparison; each contract: ONE APPLICATION.
-/
namespace Go.Proofs
open Go.Shelf
def Try.sortP_ren : Go.Shelf.Ren := ⟨fun | 6 => 75 | 15 => 79 | 14 => 78 | 28 => 89 | 29 => 90 | 20 => 81 | 21 => 82 | 22 => 83 | 23 => 84 | 24 => 85 | 25 => 86 | 26 => 87 | 27 => 88 | 46 => 92 | 47 => 93 | 48 => 94 | 49 => 95 | 50 => 96 | 57 => 98 | n => n, fun | 22 => 25 | 24 => 55 | 25 => 100 | 3 => 3 | 39 => 101 | 0 => 0 | 53 => 113 | 55 => 94 | 4 => 4 | 46 => 106 | 45 => 105 | 50 => 110 | 5 => 5 | 9 => 9 | 66 => 115 | 70 => 119 | 76 => 121 | 77 => 122 | n => n, fun | n => n⟩
theorem Try.sortP : Go.Proofs.SlLaysF0.n6 Try.prog Try.sortP_ren := {
  mixed := by kernel_rfl
  f6 := ⟨Try.f75.name, by decide, Try.func75.trans (congrArg some (by kernel_rfl))⟩
  f14 := ⟨Try.f78.name, by decide, Try.func78.trans (congrArg some (by kernel_rfl))⟩
  f15 := Try.func79.trans (congrArg some (by kernel_rfl))
  f20 := ⟨Try.f81.name, by decide, Try.func81.trans (congrArg some (by kernel_rfl))⟩
  f21 := ⟨Try.f82.name, by decide, Try.func82.trans (congrArg some (by kernel_rfl))⟩
  f22 := ⟨Try.f83.name, by decide, Try.func83.trans (congrArg some (by kernel_rfl))⟩
  f23 := ⟨Try.f84.name, by decide, Try.func84.trans (congrArg some (by kernel_rfl))⟩
  f24 := ⟨Try.f85.name, by decide, Try.func85.trans (congrArg some (by kernel_rfl))⟩
  f25 := ⟨Try.f86.name, by decide, Try.func86.trans (congrArg some (by kernel_rfl))⟩
  f26 := ⟨Try.f87.name, by decide, Try.func87.trans (congrArg some (by kernel_rfl))⟩
  f27 := ⟨Try.f88.name, by decide, Try.func88.trans (congrArg some (by kernel_rfl))⟩
  f28 := Try.func89.trans (congrArg some (by kernel_rfl))
  f29 := Try.func90.trans (congrArg some (by kernel_rfl))
  f46 := ⟨Try.f92.name, by decide, Try.func92.trans (congrArg some (by kernel_rfl))⟩
  f47 := Try.func93.trans (congrArg some (by kernel_rfl))
  f48 := Try.func94.trans (congrArg some (by kernel_rfl))
  f49 := ⟨Try.f95.name, by decide, Try.func95.trans (congrArg some (by kernel_rfl))⟩
  f50 := ⟨Try.f96.name, by decide, Try.func96.trans (congrArg some (by kernel_rfl))⟩
  f57 := ⟨Try.f98.name, by decide, Try.func98.trans (congrArg some (by kernel_rfl))⟩
  t0 := Try.underlying0
  a0 := Try.isAgg0
  z0 := Try.sizeOf0
  v0 := Try.zeroValue0
  t3 := Try.underlying3
  a3 := Try.isAgg3
  z3 := Try.sizeOf3
  v3 := Try.zeroValue3
  t4 := Try.underlying4
  a4 := Try.isAgg4
  z4 := Try.sizeOf4
  v4 := Try.zeroValue4
  t5 := Try.underlying5
  a5 := Try.isAgg5
  z5 := Try.sizeOf5
  v5 := Try.zeroValue5
  t9 := Try.underlying9
  a9 := Try.isAgg9
  z9 := Try.sizeOf9
  v9 := Try.zeroValue9
  t22 := Try.underlying25
  a22 := Try.isAgg25
  z22 := Try.sizeOf25
  v22 := Try.zeroValue25
  t25 := Try.underlying100
  a25 := Try.isAgg100
  z25 := Try.sizeOf100
  v25 := Try.zeroValue100
  t39 := Try.underlying101
  a39 := Try.isAgg101
  z39 := Try.sizeOf101
  v39 := Try.zeroValue101
  t45 := Try.underlying105
  a45 := Try.isAgg105
  z45 := Try.sizeOf105
  v45 := Try.zeroValue105
  t46 := Try.underlying106
  a46 := Try.isAgg106
  z46 := Try.sizeOf106
  v46 := Try.zeroValue106
  t50 := Try.underlying110
  a50 := Try.isAgg110
  z50 := Try.sizeOf110
  v50 := Try.zeroValue110
  t53 := Try.underlying113
  a53 := Try.isAgg113
  z53 := Try.sizeOf113
  v53 := Try.zeroValue113
  t55 := Try.underlying94
  a55 := Try.isAgg94
  z55 := Try.sizeOf94
  v55 := Try.zeroValue94
  t66 := Try.underlying115
  a66 := Try.isAgg115
  z66 := Try.sizeOf115
  v66 := Try.zeroValue115
  t70 := Try.underlying119
  a70 := Try.isAgg119
  z70 := Try.sizeOf119
  v70 := Try.zeroValue119
  t76 := Try.underlying121
  a76 := Try.isAgg121
  z76 := Try.sizeOf121
  v76 := Try.zeroValue121
  t77 := Try.underlying122
  a77 := Try.isAgg122
  z77 := Try.sizeOf122
  v77 := Try.zeroValue122 }
def Try.cloneP_ren : Go.Shelf.Ren := ⟨fun | 41 => 74 | n => n, fun | 22 => 25 | 23 => 55 | 4 => 4 | n => n, fun | n => n⟩
theorem Try.cloneP : Go.Proofs.SlLaysE0.n41 Try.prog Try.cloneP_ren := {
  mixed := by kernel_rfl
  f41 := ⟨Try.f74.name, by decide, Try.func74.trans (congrArg some (by kernel_rfl))⟩
  t4 := Try.underlying4
  a4 := Try.isAgg4
  z4 := Try.sizeOf4
  v4 := Try.zeroValue4
  t22 := Try.underlying25
  a22 := Try.isAgg25
  z22 := Try.sizeOf25
  v22 := Try.zeroValue25 }
def Try.cloneN_ren : Go.Shelf.Ren := ⟨fun | 41 => 48 | n => n, fun | 22 => 24 | 23 => 3 | 4 => 4 | n => n, fun | n => n⟩
theorem Try.cloneN : Go.Proofs.SlLaysE0.n41 Try.prog Try.cloneN_ren := {
  mixed := by kernel_rfl
  f41 := ⟨Try.f48.name, by decide, Try.func48.trans (congrArg some (by kernel_rfl))⟩
  t4 := Try.underlying4
  a4 := Try.isAgg4
  z4 := Try.sizeOf4
  v4 := Try.zeroValue4
  t22 := Try.underlying24
  a22 := Try.isAgg24
  z22 := Try.sizeOf24
  v22 := Try.zeroValue24 }
end Go.Proofs
