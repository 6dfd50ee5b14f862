import Derived.Test.YtjembpcpefgdpaaDoorQc05
import Derived.Laws.IdiomCopy
import Derived.Shelf.SlSortCmp.WholeK
import Derived.Shelf.SlicesE.Clone
import Derived.Shelf.SlLaysE0
import Derived.Shelf.SlGeneric
import Derived.Ground.SlsfProg
import Derived.Ground.SlgnProg
import Derived.Test.YtjembpcpefgdpaaDoorProg
namespace Go.Proofs.YtjembpcpefgdpaaDoor
open Go.RowKit Go.Proofs.YtjembpcpefgdpaaDoor.Ds

theorem sc_other {w : World} {a b : Addr} {v : Value} (h : a ≠ b) : (w.setCell a v).cell? b = w.cell? b := World.cell?_setCell_other _ _ _ _ h
theorem sc_same {w : World} {a : Addr} {u v : Value} (h : w.cell? a = some u) : (w.setCell a v).cell? a = some v := World.cell?_setCell_same _ _ _ h
theorem sc_frozen {w : World} {a b : Addr} {v : Value} : (w.setCell a v).frozen? b = w.frozen? b := World.frozen?_setCell _ _ _ _

/-- A ROW OF PARTS THAT MAY BE WRITTEN. -/
structure Row (w : World) (b o : Nat) (us : List Tr) : Prop where
  cells : Cells w b o us
  thaw : ∀ j, j < us.length * 2 → w.frozen? ⟨b, o + j, none⟩ = false
  lt : b < w.heap.size

theorem Row.keep {w w' : World} {b o : Nat} {us : List Tr} (h : Row w b o us) (hb : Below w.heap.size w w') : Row w' b o us :=
  ⟨h.cells.keep hb h.lt, fun j hj => (hb.frozen (p := ⟨b, o + j, none⟩) h.lt).trans (h.thaw j hj), Nat.lt_of_lt_of_le h.lt hb.size⟩

/-- .. where some block alone has turned, another one -/
theorem Row.beside {w w' : World} {b o g : Nat} {us : List Tr} (h : Row w b o us) (hg : w.grownBy w' (some g)) (hne : b ≠ g) : Row w' b o us := by
  have hk : w'.heap[b]? = w.heap[b]? := hg.block b h.lt (by simp; omega)
  exact ⟨fun i t ht => ⟨(World.cell?_of_block (w := w) (a := ⟨b, o + i * 2, none⟩) hk).trans (h.cells i t ht).1, (World.cell?_of_block (w := w) (a := ⟨b, o + i * 2 + 1, none⟩) hk).trans (h.cells i t ht).2⟩,
    fun j hj => (World.frozen?_of_block (w := w) (a := ⟨b, o + j, none⟩) hk).trans (h.thaw j hj), Nat.lt_of_lt_of_le h.lt hg.size⟩

theorem Cells.len_cell {w : World} {b o : Nat} {us : List Tr} (h : Cells w b o us) {i : Nat} (hi : i < us.length) : (w.cell? ⟨b, o + i * 2, none⟩).isSome = true ∧ (w.cell? ⟨b, o + i * 2 + 1, none⟩).isSome = true := by
  obtain ⟨t, ht⟩ := get_lt hi
  obtain ⟨h1, h2⟩ := h i t ht
  exact ⟨by rw [h1]; rfl, by rw [h2]; rfl⟩

/-- a weight is stored -/
theorem Row.setW {w : World} {b o : Nat} {us : List Tr} (h : Row w b o us) {i : Nat} {t : Tr} (ht : us[i]? = some t) (k : Int) :
    Row (w.setCell ⟨b, o + i * 2 + 1, none⟩ (.int .i64 k)) b o (us.set i (t.1, t.2.1, k)) := by
  have hi := (List.getElem?_eq_some_iff.1 ht).1
  refine ⟨fun j u hu => ?_, fun j hj => by rw [sc_frozen]; exact h.thaw j (by simpa using hj), by simpa using h.lt⟩
  by_cases hj : i = j
  · subst hj
    rw [List.getElem?_set_self hi] at hu
    obtain rfl : (t.1, t.2.1, k) = u := by simpa using hu
    have c := h.cells i t ht
    exact ⟨by rw [sc_other (by simp)]; exact c.1, sc_same c.2⟩
  · rw [List.getElem?_set_ne hj] at hu
    have c := h.cells j u hu
    exact ⟨by rw [sc_other (by simp <;> omega)]; exact c.1, by rw [sc_other (by simp <;> omega)]; exact c.2⟩

/-- a part is stored -/
theorem Row.setP {w : World} {b o : Nat} {us : List Tr} (h : Row w b o us) {i : Nat} (hi : i < us.length) (t : Tr) :
    Row (w.setCells b (o + i * 2) [t.1, .int .i64 t.2.2]) b o (us.set i t) := by
  have hs := h.cells.len_cell hi
  have e1 : ∀ a : Addr, (w.setCells b (o + i * 2) [t.1, .int .i64 t.2.2]).cell? a = ((w.setCell ⟨b, o + i * 2, none⟩ t.1).setCell ⟨b, o + i * 2 + 1, none⟩ (.int .i64 t.2.2)).cell? a := fun a => rfl
  refine ⟨fun j u hu => ?_, fun j hj => by rw [World.frozen?_setCells]; exact h.thaw j (by simpa using hj), ?_⟩
  · rw [e1, e1]
    by_cases hj : i = j
    · subst hj
      rw [List.getElem?_set_self hi] at hu
      obtain rfl : t = u := by simpa using hu
      refine ⟨?_, ?_⟩
      · rw [sc_other (by simp)]
        exact World.cell?_setCell_same' _ _ _ hs.1
      · refine World.cell?_setCell_same' _ _ _ ?_
        rw [sc_other (by simp)]
        exact hs.2
    · rw [List.getElem?_set_ne hj] at hu
      have c := h.cells j u hu
      exact ⟨by rw [sc_other (by simp <;> omega), sc_other (by simp <;> omega)]; exact c.1, by rw [sc_other (by simp <;> omega), sc_other (by simp <;> omega)]; exact c.2⟩
  · show b < (((w.setCell ⟨b, o + i * 2, none⟩ t.1).setCell ⟨b, o + i * 2 + 1, none⟩ (.int .i64 t.2.2))).heap.size
    simpa using h.lt

/-- PARTS IN MEMORY OF ONE's OWN, from block lo on; their lists lie elsewhere. -/
def Own (w : World) (lo : Nat) (v : Value) (ts : List Tr) : Prop :=
  ∃ b o c, v = .slice (some ⟨b, o, none⟩) ts.length c ∧ ts.length ≤ c ∧ ts.length ≤ 1073741824 ∧ lo ≤ b ∧ Row w b o ts ∧ ∀ t ∈ ts, Ints w w.heap.size b t.1 t.2.1

theorem Own.parts {w : World} {lo : Nat} {v : Value} {ts : List Tr} (h : Own w lo v ts) : Parts w w.heap.size v ts := by
  obtain ⟨b, o, c, hv, hc, hl, _, hr, hi⟩ := h
  refine ⟨_, c, hv, hc, hl, fun t ht => ?_, fun _ => ⟨b, o, rfl, hr.lt, hr.cells⟩⟩
  exact (hi t ht).mono (Nat.le_refl _) (.inr (Nat.le_refl _))

theorem Own.keep {w w' : World} {lo : Nat} {v : Value} {ts : List Tr} (h : Own w lo v ts) (hb : Below w.heap.size w w') : Own w' lo v ts := by
  obtain ⟨b, o, c, hv, hc, hl, hlo, hr, hi⟩ := h
  exact ⟨b, o, c, hv, hc, hl, hlo, hr.keep hb, fun t ht => ((hi t ht).keep hb).mono hb.size (.inl rfl)⟩

theorem Own.mono {w : World} {lo lo' : Nat} {v : Value} {ts : List Tr} (h : Own w lo v ts) (hl : lo' ≤ lo) : Own w lo' v ts := by
  obtain ⟨b, o, c, hv, hc, hl', hlo, hr, hi⟩ := h
  exact ⟨b, o, c, hv, hc, hl', by omega, hr, hi⟩

/-- the lists lie in blocks from lo on -/
def Frs (lo : Nat) (ts : List Tr) : Prop := ∀ t ∈ ts, t.2.1 ≠ [] → ∀ b o sp n c, t.1 = .slice (some ⟨b, o, sp⟩) n c → lo ≤ b
theorem Frs.mono {lo lo' : Nat} {ts : List Tr} (h : Frs lo ts) (hl : lo' ≤ lo) : Frs lo' ts := fun t ht hne b o sp n c e => Nat.le_trans hl (h t ht hne b o sp n c e)
theorem Frs.of {lo : Nat} {ts us : List Tr} (h : Frs lo ts) (hu : ∀ t ∈ us, ∃ u ∈ ts, t.1 = u.1 ∧ t.2.1 = u.2.1) : Frs lo us := by
  intro t ht hne b o sp n c e
  obtain ⟨u, hu1, e1, e2⟩ := hu t ht
  exact h u hu1 (e2 ▸ hne) b o sp n c (e1 ▸ e)
theorem Frs.nil (lo : Nat) : Frs lo [] := fun t ht => by cases ht
theorem fr_of {w : World} {B lo : Nat} {s : Value} {xs : List Int} (h : ∀ m, m < lo → Ints w B m s xs) : xs ≠ [] → ∀ b o sp n c, s = .slice (some ⟨b, o, sp⟩) n c → lo ≤ b := by
  intro hne b o sp n c e
  rcases Nat.lt_or_ge b lo with hb | hb
  · obtain ⟨a, c', hv, _, _, hx⟩ := h b hb
    obtain ⟨b', o', ha, _, hn, _⟩ := hx hne
    rw [hv, ha] at e
    simp only [Value.slice.injEq, Option.some.injEq, Addr.mk.injEq] at e
    exact absurd e.1.1 hn
  · exact hb

theorem parts_nil (w : World) (B : Nat) : Parts w B (.slice none 0 0) [] := ⟨none, 0, rfl, Nat.le_refl _, by simp, by simp, fun h => absurd rfl h⟩

end Go.Proofs.YtjembpcpefgdpaaDoor

/-
  DERIVED: THE SHELF's CONTRACTS AT THIS DUMP, IN PLAIN WORDS (tools/lay-plain.mjs out of 'YtjembpcpefgdpaaDoorShelf.lean', which tools/lay-shelf.mjs wrote): THE SAME DECLARATIONS UNDER THE SAME NAMES: 'import', 'namespace', 'open', 'def', 'theorem' AND NOTHING ELSE: no command of the shelf's: FOR A HAND-IN. Each laying: the table of numbers ('.._ren') and one theorem, a field a fact of the dump's own or the kernel's comparison; each contract: ONE APPLICATION.
-/
namespace Go.Proofs
open Go.Shelf
def Tryd.sortP_ren : Go.Shelf.Ren := ⟨fun | 6 => 79 | 15 => 84 | 14 => 83 | 28 => 94 | 29 => 95 | 20 => 86 | 21 => 87 | 22 => 88 | 23 => 89 | 24 => 90 | 25 => 91 | 26 => 92 | 27 => 93 | 46 => 96 | 47 => 97 | 48 => 98 | 49 => 99 | 50 => 100 | 57 => 101 | n => n, fun | 22 => 42 | 24 => 68 | 25 => 97 | 3 => 3 | 39 => 92 | 0 => 0 | 53 => 101 | 55 => 85 | 4 => 4 | 46 => 120 | 45 => 119 | 50 => 124 | 5 => 5 | 9 => 9 | 66 => 126 | 70 => 130 | 76 => 132 | 77 => 109 | n => n, fun | n => n⟩
theorem Tryd.sortP : Go.Proofs.SlLaysF0.n6 Tryd.prog Tryd.sortP_ren := {
  mixed := by kernel_rfl
  f6 := ⟨Tryd.f79.name, by decide, Tryd.func79.trans (congrArg some (by kernel_rfl))⟩
  f14 := ⟨Tryd.f83.name, by decide, Tryd.func83.trans (congrArg some (by kernel_rfl))⟩
  f15 := Tryd.func84.trans (congrArg some (by kernel_rfl))
  f20 := ⟨Tryd.f86.name, by decide, Tryd.func86.trans (congrArg some (by kernel_rfl))⟩
  f21 := ⟨Tryd.f87.name, by decide, Tryd.func87.trans (congrArg some (by kernel_rfl))⟩
  f22 := ⟨Tryd.f88.name, by decide, Tryd.func88.trans (congrArg some (by kernel_rfl))⟩
  f23 := ⟨Tryd.f89.name, by decide, Tryd.func89.trans (congrArg some (by kernel_rfl))⟩
  f24 := ⟨Tryd.f90.name, by decide, Tryd.func90.trans (congrArg some (by kernel_rfl))⟩
  f25 := ⟨Tryd.f91.name, by decide, Tryd.func91.trans (congrArg some (by kernel_rfl))⟩
  f26 := ⟨Tryd.f92.name, by decide, Tryd.func92.trans (congrArg some (by kernel_rfl))⟩
  f27 := ⟨Tryd.f93.name, by decide, Tryd.func93.trans (congrArg some (by kernel_rfl))⟩
  f28 := Tryd.func94.trans (congrArg some (by kernel_rfl))
  f29 := Tryd.func95.trans (congrArg some (by kernel_rfl))
  f46 := ⟨Tryd.f96.name, by decide, Tryd.func96.trans (congrArg some (by kernel_rfl))⟩
  f47 := Tryd.func97.trans (congrArg some (by kernel_rfl))
  f48 := Tryd.func98.trans (congrArg some (by kernel_rfl))
  f49 := ⟨Tryd.f99.name, by decide, Tryd.func99.trans (congrArg some (by kernel_rfl))⟩
  f50 := ⟨Tryd.f100.name, by decide, Tryd.func100.trans (congrArg some (by kernel_rfl))⟩
  f57 := ⟨Tryd.f101.name, by decide, Tryd.func101.trans (congrArg some (by kernel_rfl))⟩
  t0 := Tryd.underlying0
  a0 := Tryd.isAgg0
  z0 := Tryd.sizeOf0
  v0 := Tryd.zeroValue0
  t3 := Tryd.underlying3
  a3 := Tryd.isAgg3
  z3 := Tryd.sizeOf3
  v3 := Tryd.zeroValue3
  t4 := Tryd.underlying4
  a4 := Tryd.isAgg4
  z4 := Tryd.sizeOf4
  v4 := Tryd.zeroValue4
  t5 := Tryd.underlying5
  a5 := Tryd.isAgg5
  z5 := Tryd.sizeOf5
  v5 := Tryd.zeroValue5
  t9 := Tryd.underlying9
  a9 := Tryd.isAgg9
  z9 := Tryd.sizeOf9
  v9 := Tryd.zeroValue9
  t22 := Tryd.underlying42
  a22 := Tryd.isAgg42
  z22 := Tryd.sizeOf42
  v22 := Tryd.zeroValue42
  t25 := Tryd.underlying97
  a25 := Tryd.isAgg97
  z25 := Tryd.sizeOf97
  v25 := Tryd.zeroValue97
  t39 := Tryd.underlying92
  a39 := Tryd.isAgg92
  z39 := Tryd.sizeOf92
  v39 := Tryd.zeroValue92
  t45 := Tryd.underlying119
  a45 := Tryd.isAgg119
  z45 := Tryd.sizeOf119
  v45 := Tryd.zeroValue119
  t46 := Tryd.underlying120
  a46 := Tryd.isAgg120
  z46 := Tryd.sizeOf120
  v46 := Tryd.zeroValue120
  t50 := Tryd.underlying124
  a50 := Tryd.isAgg124
  z50 := Tryd.sizeOf124
  v50 := Tryd.zeroValue124
  t53 := Tryd.underlying101
  a53 := Tryd.isAgg101
  z53 := Tryd.sizeOf101
  v53 := Tryd.zeroValue101
  t55 := Tryd.underlying85
  a55 := Tryd.isAgg85
  z55 := Tryd.sizeOf85
  v55 := Tryd.zeroValue85
  t66 := Tryd.underlying126
  a66 := Tryd.isAgg126
  z66 := Tryd.sizeOf126
  v66 := Tryd.zeroValue126
  t70 := Tryd.underlying130
  a70 := Tryd.isAgg130
  z70 := Tryd.sizeOf130
  v70 := Tryd.zeroValue130
  t76 := Tryd.underlying132
  a76 := Tryd.isAgg132
  z76 := Tryd.sizeOf132
  v76 := Tryd.zeroValue132
  t77 := Tryd.underlying109
  a77 := Tryd.isAgg109
  z77 := Tryd.sizeOf109
  v77 := Tryd.zeroValue109 }
def Tryd.cloneP_ren : Go.Shelf.Ren := ⟨fun | 41 => 78 | n => n, fun | 22 => 42 | 23 => 68 | 4 => 4 | n => n, fun | n => n⟩
theorem Tryd.cloneP : Go.Proofs.SlLaysE0.n41 Tryd.prog Tryd.cloneP_ren := {
  mixed := by kernel_rfl
  f41 := ⟨Tryd.f78.name, by decide, Tryd.func78.trans (congrArg some (by kernel_rfl))⟩
  t4 := Tryd.underlying4
  a4 := Tryd.isAgg4
  z4 := Tryd.sizeOf4
  v4 := Tryd.zeroValue4
  t22 := Tryd.underlying42
  a22 := Tryd.isAgg42
  z22 := Tryd.sizeOf42
  v22 := Tryd.zeroValue42 }
def Tryd.cloneN_ren : Go.Shelf.Ren := ⟨fun | 41 => 33 | n => n, fun | 22 => 24 | 23 => 3 | 4 => 4 | n => n, fun | n => n⟩
theorem Tryd.cloneN : Go.Proofs.SlLaysE0.n41 Tryd.prog Tryd.cloneN_ren := {
  mixed := by kernel_rfl
  f41 := ⟨Tryd.f33.name, by decide, Tryd.func33.trans (congrArg some (by kernel_rfl))⟩
  t4 := Tryd.underlying4
  a4 := Tryd.isAgg4
  z4 := Tryd.sizeOf4
  v4 := Tryd.zeroValue4
  t22 := Tryd.underlying24
  a22 := Tryd.isAgg24
  z22 := Tryd.sizeOf24
  v22 := Tryd.zeroValue24 }
end Go.Proofs
