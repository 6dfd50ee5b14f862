import Derived.Test.YtlndlpjadajelaaGreatQl03
import Derived.Laws.IdiomCopy
import Derived.Shelf.SlSortCmp.WholeK
import Derived.Shelf.SlicesE.Clone
import Derived.Shelf.SlLaysE0
import Derived.Shelf.SlGeneric
import Derived.Ground.SlsfProg
import Derived.Ground.SlgnProg
import Derived.Test.YtlndlpjadajelaaGreatProg
import Derived.Shelf.SlSortCmp.NoneTotal
import Derived.Shelf.RegionOpenPlain
import Derived.Deep.LoopGhost
import Derived.Lib.Walk
import Derived.Lib.SliceRun
namespace Go.Proofs.YtlndlpjadajelaaGreat
open Go.RowKit Go.Proofs.YtlndlpjadajelaaGreat.Ds

theorem sc_other {w : World} {a b : Addr} {v : Value} (h : a ≠ b) : (w.setCell a v).cell? b = w.cell? b := World.cell?_setCell_other _ _ _ _ h
theorem sc_same {w : World} {a : Addr} {u v : Value} (h : w.cell? a = some u) : (w.setCell a v).cell? a = some v := World.cell?_setCell_same _ _ _ h
theorem sc_frozen {w : World} {a b : Addr} {v : Value} : (w.setCell a v).frozen? b = w.frozen? b := World.frozen?_setCell _ _ _ _

/-- A ROW OF PARTS THAT MAY BE WRITTEN. -/
structure Row (w : World) (b o : Nat) (us : List Tr) : Prop where
  cells : Cells w b o us
  thaw : ∀ j, j < us.length * 2 → w.frozen? ⟨b, o + j, none⟩ = false
  lt : b < w.heap.size

theorem Row.keep {w w' : World} {b o : Nat} {us : List Tr} (h : Row w b o us) (hb : Below w.heap.size w w') : Row w' b o us :=
  ⟨h.cells.keep hb h.lt, fun j hj => (hb.frozen (p := ⟨b, o + j, none⟩) h.lt).trans (h.thaw j hj), Nat.lt_of_lt_of_le h.lt hb.size⟩

/-- .. where some block alone has turned, another one -/
theorem Row.beside {w w' : World} {b o g : Nat} {us : List Tr} (h : Row w b o us) (hg : w.grownBy w' (some g)) (hne : b ≠ g) : Row w' b o us := by
  have hk : w'.heap[b]? = w.heap[b]? := hg.block b h.lt (by simp; omega)
  exact ⟨fun i t ht => ⟨(World.cell?_of_block (w := w) (a := ⟨b, o + i * 2, none⟩) hk).trans (h.cells i t ht).1, (World.cell?_of_block (w := w) (a := ⟨b, o + i * 2 + 1, none⟩) hk).trans (h.cells i t ht).2⟩,
    fun j hj => (World.frozen?_of_block (w := w) (a := ⟨b, o + j, none⟩) hk).trans (h.thaw j hj), Nat.lt_of_lt_of_le h.lt hg.size⟩

theorem Cells.len_cell {w : World} {b o : Nat} {us : List Tr} (h : Cells w b o us) {i : Nat} (hi : i < us.length) : (w.cell? ⟨b, o + i * 2, none⟩).isSome = true ∧ (w.cell? ⟨b, o + i * 2 + 1, none⟩).isSome = true := by
  obtain ⟨t, ht⟩ := get_lt hi
  obtain ⟨h1, h2⟩ := h i t ht
  exact ⟨by rw [h1]; rfl, by rw [h2]; rfl⟩

/-- a weight is stored -/
theorem Row.setW {w : World} {b o : Nat} {us : List Tr} (h : Row w b o us) {i : Nat} {t : Tr} (ht : us[i]? = some t) (k : Int) :
    Row (w.setCell ⟨b, o + i * 2 + 1, none⟩ (.int .i64 k)) b o (us.set i (t.1, t.2.1, k)) := by
  have hi := (List.getElem?_eq_some_iff.1 ht).1
  refine ⟨fun j u hu => ?_, fun j hj => by rw [sc_frozen]; exact h.thaw j (by simpa using hj), by simpa using h.lt⟩
  by_cases hj : i = j
  · subst hj
    rw [List.getElem?_set_self hi] at hu
    obtain rfl : (t.1, t.2.1, k) = u := by simpa using hu
    have c := h.cells i t ht
    exact ⟨by rw [sc_other (by simp)]; exact c.1, sc_same c.2⟩
  · rw [List.getElem?_set_ne hj] at hu
    have c := h.cells j u hu
    exact ⟨by rw [sc_other (by simp <;> omega)]; exact c.1, by rw [sc_other (by simp <;> omega)]; exact c.2⟩

/-- a part is stored -/
theorem Row.setP {w : World} {b o : Nat} {us : List Tr} (h : Row w b o us) {i : Nat} (hi : i < us.length) (t : Tr) :
    Row (w.setCells b (o + i * 2) [t.1, .int .i64 t.2.2]) b o (us.set i t) := by
  have hs := h.cells.len_cell hi
  have e1 : ∀ a : Addr, (w.setCells b (o + i * 2) [t.1, .int .i64 t.2.2]).cell? a = ((w.setCell ⟨b, o + i * 2, none⟩ t.1).setCell ⟨b, o + i * 2 + 1, none⟩ (.int .i64 t.2.2)).cell? a := fun a => rfl
  refine ⟨fun j u hu => ?_, fun j hj => by rw [World.frozen?_setCells]; exact h.thaw j (by simpa using hj), ?_⟩
  · rw [e1, e1]
    by_cases hj : i = j
    · subst hj
      rw [List.getElem?_set_self hi] at hu
      obtain rfl : t = u := by simpa using hu
      refine ⟨?_, ?_⟩
      · rw [sc_other (by simp)]
        exact World.cell?_setCell_same' _ _ _ hs.1
      · refine World.cell?_setCell_same' _ _ _ ?_
        rw [sc_other (by simp)]
        exact hs.2
    · rw [List.getElem?_set_ne hj] at hu
      have c := h.cells j u hu
      exact ⟨by rw [sc_other (by simp <;> omega), sc_other (by simp <;> omega)]; exact c.1, by rw [sc_other (by simp <;> omega), sc_other (by simp <;> omega)]; exact c.2⟩
  · show b < (((w.setCell ⟨b, o + i * 2, none⟩ t.1).setCell ⟨b, o + i * 2 + 1, none⟩ (.int .i64 t.2.2))).heap.size
    simpa using h.lt

/-- PARTS IN MEMORY OF ONE's OWN, from block lo on; their lists lie elsewhere. -/
def Own (w : World) (lo : Nat) (v : Value) (ts : List Tr) : Prop :=
  ∃ b o c, v = .slice (some ⟨b, o, none⟩) ts.length c ∧ ts.length ≤ c ∧ ts.length ≤ 1073741824 ∧ lo ≤ b ∧ Row w b o ts ∧ ∀ t ∈ ts, Ints w w.heap.size b t.1 t.2.1

theorem Own.parts {w : World} {lo : Nat} {v : Value} {ts : List Tr} (h : Own w lo v ts) : Parts w w.heap.size v ts := by
  obtain ⟨b, o, c, hv, hc, hl, _, hr, hi⟩ := h
  refine ⟨_, c, hv, hc, hl, fun t ht => ?_, fun _ => ⟨b, o, rfl, hr.lt, hr.cells⟩⟩
  exact (hi t ht).mono (Nat.le_refl _) (.inr (Nat.le_refl _))

theorem Own.keep {w w' : World} {lo : Nat} {v : Value} {ts : List Tr} (h : Own w lo v ts) (hb : Below w.heap.size w w') : Own w' lo v ts := by
  obtain ⟨b, o, c, hv, hc, hl, hlo, hr, hi⟩ := h
  exact ⟨b, o, c, hv, hc, hl, hlo, hr.keep hb, fun t ht => ((hi t ht).keep hb).mono hb.size (.inl rfl)⟩

theorem Own.mono {w : World} {lo lo' : Nat} {v : Value} {ts : List Tr} (h : Own w lo v ts) (hl : lo' ≤ lo) : Own w lo' v ts := by
  obtain ⟨b, o, c, hv, hc, hl', hlo, hr, hi⟩ := h
  exact ⟨b, o, c, hv, hc, hl', by omega, hr, hi⟩

/-- the lists lie in blocks from lo on -/
def Frs (lo : Nat) (ts : List Tr) : Prop := ∀ t ∈ ts, t.2.1 ≠ [] → ∀ b o sp n c, t.1 = .slice (some ⟨b, o, sp⟩) n c → lo ≤ b
theorem Frs.mono {lo lo' : Nat} {ts : List Tr} (h : Frs lo ts) (hl : lo' ≤ lo) : Frs lo' ts := fun t ht hne b o sp n c e => Nat.le_trans hl (h t ht hne b o sp n c e)
theorem Frs.of {lo : Nat} {ts us : List Tr} (h : Frs lo ts) (hu : ∀ t ∈ us, ∃ u ∈ ts, t.1 = u.1 ∧ t.2.1 = u.2.1) : Frs lo us := by
  intro t ht hne b o sp n c e
  obtain ⟨u, hu1, e1, e2⟩ := hu t ht
  exact h u hu1 (e2 ▸ hne) b o sp n c (e1 ▸ e)
theorem Frs.nil (lo : Nat) : Frs lo [] := fun t ht => by cases ht
theorem fr_of {w : World} {B lo : Nat} {s : Value} {xs : List Int} (h : ∀ m, m < lo → Ints w B m s xs) : xs ≠ [] → ∀ b o sp n c, s = .slice (some ⟨b, o, sp⟩) n c → lo ≤ b := by
  intro hne b o sp n c e
  rcases Nat.lt_or_ge b lo with hb | hb
  · obtain ⟨a, c', hv, _, _, hx⟩ := h b hb
    obtain ⟨b', o', ha, _, hn, _⟩ := hx hne
    rw [hv, ha] at e
    simp only [Value.slice.injEq, Option.some.injEq, Addr.mk.injEq] at e
    exact absurd e.1.1 hn
  · exact hb

theorem parts_nil (w : World) (B : Nat) : Parts w B (.slice none 0 0) [] := ⟨none, 0, rfl, Nat.le_refl _, by simp, by simp, fun h => absurd rfl h⟩

end Go.Proofs.YtlndlpjadajelaaGreat

/-
  DERIVED: THE SHELF's CONTRACTS AT THIS DUMP, IN PLAIN WORDS (tools/lay-plain.mjs out of 'YtlndlpjadajelaaGreatShelf.lean', which tools/lay-shelf.mjs wrote): THE SAME DECLARATIONS UNDER THE SAME NAMES: 'import', 'namespace', 'open', 'def', 'theorem' AND NOTHING ELSE: no command of the shelf's: FOR A HAND-IN. Each laying: the table of numbers ('.._ren') and one theorem, a field a fact of the dump's own or the kernel's comparison; each contract: ONE APPLICATION.
-/
namespace Go.Proofs
open Go.Shelf
def Tryz.sortP_ren : Go.Shelf.Ren := ⟨fun | 6 => 206 | 15 => 218 | 14 => 224 | 28 => 244 | 29 => 245 | 20 => 248 | 21 => 249 | 22 => 250 | 23 => 251 | 24 => 252 | 25 => 253 | 26 => 254 | 27 => 255 | 46 => 271 | 47 => 257 | 48 => 258 | 49 => 272 | 50 => 273 | 57 => 278 | n => n, fun | 22 => 43 | 24 => 82 | 25 => 176 | 3 => 3 | 39 => 177 | 0 => 0 | 53 => 261 | 55 => 133 | 4 => 4 | 46 => 253 | 45 => 252 | 50 => 258 | 5 => 5 | 9 => 9 | 66 => 270 | 70 => 274 | 76 => 283 | 77 => 210 | n => n, fun | n => n⟩
theorem Tryz.sortP : Go.Proofs.SlLaysF0.n6 Tryz.prog Tryz.sortP_ren := {
  mixed := by kernel_rfl
  f6 := ⟨Tryz.f206.name, by decide, Tryz.func206.trans (congrArg some (by kernel_rfl))⟩
  f14 := ⟨Tryz.f224.name, by decide, Tryz.func224.trans (congrArg some (by kernel_rfl))⟩
  f15 := Tryz.func218.trans (congrArg some (by kernel_rfl))
  f20 := ⟨Tryz.f248.name, by decide, Tryz.func248.trans (congrArg some (by kernel_rfl))⟩
  f21 := ⟨Tryz.f249.name, by decide, Tryz.func249.trans (congrArg some (by kernel_rfl))⟩
  f22 := ⟨Tryz.f250.name, by decide, Tryz.func250.trans (congrArg some (by kernel_rfl))⟩
  f23 := ⟨Tryz.f251.name, by decide, Tryz.func251.trans (congrArg some (by kernel_rfl))⟩
  f24 := ⟨Tryz.f252.name, by decide, Tryz.func252.trans (congrArg some (by kernel_rfl))⟩
  f25 := ⟨Tryz.f253.name, by decide, Tryz.func253.trans (congrArg some (by kernel_rfl))⟩
  f26 := ⟨Tryz.f254.name, by decide, Tryz.func254.trans (congrArg some (by kernel_rfl))⟩
  f27 := ⟨Tryz.f255.name, by decide, Tryz.func255.trans (congrArg some (by kernel_rfl))⟩
  f28 := Tryz.func244.trans (congrArg some (by kernel_rfl))
  f29 := Tryz.func245.trans (congrArg some (by kernel_rfl))
  f46 := ⟨Tryz.f271.name, by decide, Tryz.func271.trans (congrArg some (by kernel_rfl))⟩
  f47 := Tryz.func257.trans (congrArg some (by kernel_rfl))
  f48 := Tryz.func258.trans (congrArg some (by kernel_rfl))
  f49 := ⟨Tryz.f272.name, by decide, Tryz.func272.trans (congrArg some (by kernel_rfl))⟩
  f50 := ⟨Tryz.f273.name, by decide, Tryz.func273.trans (congrArg some (by kernel_rfl))⟩
  f57 := ⟨Tryz.f278.name, by decide, Tryz.func278.trans (congrArg some (by kernel_rfl))⟩
  t0 := Tryz.underlying0
  a0 := Tryz.isAgg0
  z0 := Tryz.sizeOf0
  v0 := Tryz.zeroValue0
  t3 := Tryz.underlying3
  a3 := Tryz.isAgg3
  z3 := Tryz.sizeOf3
  v3 := Tryz.zeroValue3
  t4 := Tryz.underlying4
  a4 := Tryz.isAgg4
  z4 := Tryz.sizeOf4
  v4 := Tryz.zeroValue4
  t5 := Tryz.underlying5
  a5 := Tryz.isAgg5
  z5 := Tryz.sizeOf5
  v5 := Tryz.zeroValue5
  t9 := Tryz.underlying9
  a9 := Tryz.isAgg9
  z9 := Tryz.sizeOf9
  v9 := Tryz.zeroValue9
  t22 := Tryz.underlying43
  a22 := Tryz.isAgg43
  z22 := Tryz.sizeOf43
  v22 := Tryz.zeroValue43
  t25 := Tryz.underlying176
  a25 := Tryz.isAgg176
  z25 := Tryz.sizeOf176
  v25 := Tryz.zeroValue176
  t39 := Tryz.underlying177
  a39 := Tryz.isAgg177
  z39 := Tryz.sizeOf177
  v39 := Tryz.zeroValue177
  t45 := Tryz.underlying252
  a45 := Tryz.isAgg252
  z45 := Tryz.sizeOf252
  v45 := Tryz.zeroValue252
  t46 := Tryz.underlying253
  a46 := Tryz.isAgg253
  z46 := Tryz.sizeOf253
  v46 := Tryz.zeroValue253
  t50 := Tryz.underlying258
  a50 := Tryz.isAgg258
  z50 := Tryz.sizeOf258
  v50 := Tryz.zeroValue258
  t53 := Tryz.underlying261
  a53 := Tryz.isAgg261
  z53 := Tryz.sizeOf261
  v53 := Tryz.zeroValue261
  t55 := Tryz.underlying133
  a55 := Tryz.isAgg133
  z55 := Tryz.sizeOf133
  v55 := Tryz.zeroValue133
  t66 := Tryz.underlying270
  a66 := Tryz.isAgg270
  z66 := Tryz.sizeOf270
  v66 := Tryz.zeroValue270
  t70 := Tryz.underlying274
  a70 := Tryz.isAgg274
  z70 := Tryz.sizeOf274
  v70 := Tryz.zeroValue274
  t76 := Tryz.underlying283
  a76 := Tryz.isAgg283
  z76 := Tryz.sizeOf283
  v76 := Tryz.zeroValue283
  t77 := Tryz.underlying210
  a77 := Tryz.isAgg210
  z77 := Tryz.sizeOf210
  v77 := Tryz.zeroValue210 }
def Tryz.cloneP_ren : Go.Shelf.Ren := ⟨fun | 41 => 205 | n => n, fun | 22 => 43 | 23 => 82 | 4 => 4 | n => n, fun | n => n⟩
theorem Tryz.cloneP : Go.Proofs.SlLaysE0.n41 Tryz.prog Tryz.cloneP_ren := {
  mixed := by kernel_rfl
  f41 := ⟨Tryz.f205.name, by decide, Tryz.func205.trans (congrArg some (by kernel_rfl))⟩
  t4 := Tryz.underlying4
  a4 := Tryz.isAgg4
  z4 := Tryz.sizeOf4
  v4 := Tryz.zeroValue4
  t22 := Tryz.underlying43
  a22 := Tryz.isAgg43
  z22 := Tryz.sizeOf43
  v22 := Tryz.zeroValue43 }
def Tryz.cloneN_ren : Go.Shelf.Ren := ⟨fun | 41 => 140 | n => n, fun | 22 => 65 | 23 => 3 | 4 => 4 | n => n, fun | n => n⟩
theorem Tryz.cloneN : Go.Proofs.SlLaysE0.n41 Tryz.prog Tryz.cloneN_ren := {
  mixed := by kernel_rfl
  f41 := ⟨Tryz.f140.name, by decide, Tryz.func140.trans (congrArg some (by kernel_rfl))⟩
  t4 := Tryz.underlying4
  a4 := Tryz.isAgg4
  z4 := Tryz.sizeOf4
  v4 := Tryz.zeroValue4
  t22 := Tryz.underlying65
  a22 := Tryz.isAgg65
  z22 := Tryz.sizeOf65
  v22 := Tryz.zeroValue65 }
end Go.Proofs

namespace Go.Proofs.YtlndlpjadajelaaGreat
open Go.RowKit Go.Proofs.YtlndlpjadajelaaGreat.Ds Go.Sort Go.Shelf

theorem info3 : (Tryz.prog.info? 3).map (fun i => (i.zero, i.size, i.bytes)) = some (some (.int .i64 0), 1, 8) := by kernel_rfl
theorem info32 : (Tryz.prog.info? 82).map (fun i => (i.zero, i.size, i.bytes)) = some (some (.agg #[.slice none 0 0, .int .i64 0]), 2, 32) := by kernel_rfl

/-- the cells of parts, one behind the other -/
def flat (ts : List Tr) : List Value := ts.flatMap fun t => [t.1, .int .i64 t.2.2]

theorem flat_len (ts : List Tr) : (flat ts).length = ts.length * 2 := by
  induction ts with
  | nil => rfl
  | cons t ts ih => simp [flat] at *; omega

theorem flat_get (ts : List Tr) (i : Nat) : (flat ts)[i * 2]? = ts[i]?.map (·.1) ∧ (flat ts)[i * 2 + 1]? = ts[i]?.map fun t => .int .i64 t.2.2 := by
  induction ts generalizing i with
  | nil => simp [flat]
  | cons t ts ih =>
    cases i with
    | zero => simp [flat]
    | succ i =>
      have h := ih i
      have e : flat (t :: ts) = t.1 :: .int .i64 t.2.2 :: flat ts := rfl
      rw [e, show (i + 1) * 2 = i * 2 + 1 + 1 by omega, show i * 2 + 1 + 1 + 1 = (i * 2 + 1) + 1 + 1 by omega]
      simpa using h

theorem flat_cells {w : World} {b o : Nat} {ts : List Tr} (h : Cells w b o ts) : ∀ j u, (flat ts)[j]? = some u → w.cell? ⟨b, o + j, none⟩ = some u := by
  intro j u hj
  have hlt : j < ts.length * 2 := by rw [← flat_len]; exact (List.getElem?_eq_some_iff.1 hj).1
  obtain ⟨t, ht⟩ := get_lt (l := ts) (i := j / 2) (by omega)
  have hg := flat_get ts (j / 2)
  rcases Nat.mod_two_eq_zero_or_one j with hm | hm
  · have e : j = j / 2 * 2 := by omega
    rw [e] at hj ⊢
    rw [hg.1, ht] at hj
    rw [(h _ t ht).1]; simpa using hj
  · have e : j = j / 2 * 2 + 1 := by omega
    rw [e] at hj ⊢
    rw [hg.2, ht] at hj
    rw [← Nat.add_assoc, (h _ t ht).2]; simpa using hj

theorem frozen_zero {w : World} {g j : Nat} {cur : Array Value} {e : TypeId} (h : w.heap[g]? = some (.cells cur e (0, 0))) : w.frozen? ⟨g, j, none⟩ = false := by
  simp [World.frozen?, h]

/-- what a clone owns -/
theorem row_of_owns {w : World} {base : Nat} {v : Value} {ts : List Tr} {n : Nat} (hn : n = ts.length) (h : w.ownsRow base 82 2 v n (flat ts)) (hne : v ≠ .slice none 0 0) :
    ∃ g cap, v = .slice (some ⟨g, 0, none⟩) ts.length cap ∧ ts.length ≤ cap ∧ base ≤ g ∧ Row w g 0 ts := by
  subst hn
  obtain ⟨_, ⟨hv, _⟩ | ⟨g, cap, cur, hv, hb, hcur, hc, _, hsz, hx⟩⟩ := h
  · exact absurd hv hne
  · have hget : ∀ j u, (flat ts)[j]? = some u → w.cell? ⟨g, 0 + j, none⟩ = some u := by
      intro j u hj
      have hj2 : j < ts.length * 2 := by rw [← flat_len]; exact (List.getElem?_eq_some_iff.1 hj).1
      have : cur[j]? = some u := by
        rw [← hx, List.getElem?_take_of_lt hj2] at hj
        simpa using hj
      simp [World.cell?, hcur, this]
    refine ⟨g, cap, hv, hc, hb, ⟨fun i t ht => ?_, fun j _ => frozen_zero hcur, (Array.getElem?_eq_some_iff.1 hcur).1⟩⟩
    have hg := flat_get ts i
    exact ⟨hget _ _ (by rw [hg.1, ht]; rfl), by rw [Nat.add_assoc]; exact hget _ _ (by rw [hg.2, ht]; rfl)⟩

theorem ints_of_owns {w : World} {base nb : Nat} {v : Value} {xs : List Int} {n : Nat} (hn : n = xs.length) (hl : xs.length ≤ 1073741824) (h : w.ownsRow base 3 1 v n (xs.map (.int .i64))) (hnb : nb < base) : Ints w w.heap.size nb v xs := by
  subst hn
  obtain ⟨_, ⟨hv, h0⟩ | ⟨g, cap, cur, hv, hb, hcur, hc, _, hsz, hx⟩⟩ := h
  · obtain rfl : xs = [] := by cases xs <;> simp_all
    exact ⟨none, 0, hv, Nat.le_refl _, hl, fun h => absurd rfl h⟩
  · refine ⟨_, cap, hv, hc, hl, fun _ => ⟨g, 0, rfl, (Array.getElem?_eq_some_iff.1 hcur).1, by omega, fun i x hi => ?_⟩⟩
    have hi2 : i < xs.length := (List.getElem?_eq_some_iff.1 hi).1
    have : cur[i]? = some (.int .i64 x) := by
      have h1 : (xs.map (Value.int .i64))[i]? = some (.int .i64 x) := by simp [hi]
      rw [← hx, List.getElem?_take_of_lt (by omega)] at h1
      simpa using h1
    simp [World.cell?, hcur, this]

set_option maxHeartbeats 1000000 in
set_option maxRecDepth 100000 in
theorem cloneN_any (B nb : Nat) (v : Value) (xs : List Int) (w : World) (hB : B ≤ w.heap.size) (hx : Ints w B nb v xs) :
    Calls Tryz.prog 140 #[v] w fun e w' => ∃ v', e = .returned v' ∧ (∀ m, m < w.heap.size → Ints w' w'.heap.size m v' xs) ∧ Below w.heap.size w w' := by
  obtain ⟨a, c, rfl, hc, hl, hxx⟩ := hx
  have q22 : ∀ (w : World) (a : Option Addr) (n c n' c' : Nat), (binOp .eql 65 (.slice a n c) (.slice none n' c')).run Tryz.prog w = .ok (.bool a.isNone) w := fun w a n c n' c' => Lib.run_eql_slice_nil w _ _ a n c n' c' Tryz.underlying65
  cases a with
  | none =>
    obtain rfl : xs = [] := by
      cases xs with
      | nil => rfl
      | cons x l => obtain ⟨b, o, h, _⟩ := hxx (by simp); cases h
    clear hxx
    go_enter Tryz.func140, Tryz.ntmps140
    go_wp2
    go_ret
    exact ⟨_, rfl, fun m _ => ⟨none, 0, rfl, Nat.le_refl _, by simp, fun h => absurd rfl h⟩, Below.refl _ _⟩
  | some ad =>
    have A : Hid (∀ j u, (xs.map (Value.int .i64))[j]? = some u → ∀ o, (w.alloc o).cell? (ad.add j) = some u) := by
      intro j u hj o
      have hlt : j < xs.length := by have := (List.getElem?_eq_some_iff.1 hj).1; simpa using this
      obtain ⟨b, o', he, hb, _, hcell⟩ := hxx (ne_of_lt hlt)
      obtain ⟨x, hx⟩ := get_lt hlt
      simp only [Option.some.injEq] at he
      subst he
      rw [Addr.add_lit, World.cell?_alloc_lt _ _ _ (by simp; omega), hcell j x hx]
      simpa [hx] using hj
    obtain ⟨i0, hi, hz0, hz1, hz2⟩ := info_parts info3
    clear hxx
    have hnb : Hid (xs.length * 8 ≤ 140737488355328 ∧ xs.length ≤ maxLen) := ⟨by omega, by simp [maxLen]; omega⟩
    go_enter Tryz.func140, Tryz.ntmps140
    go_wp2_with (at_builtin; refine wpList_append_own _ rfl _ _ 65 rfl w.heap.size 3 i0 (.int .i64 0) 1 8 Tryz.underlying65 hi hz0 hz1 hz2 rfl (by decide) _ _ _ rfl (World.ownsRow_made w #[] 0 (Nat.le_refl _) (Nat.zero_le _) (by simp)) ad xs.length c (xs.map (Value.int .i64)) rfl ?qc1 ?qc2 ?qc3 ?qc4 ?qc5 ?qc6 ?_)
    case qc1 => simp
    case qc2 => intro j u hj; exact A.out j u hj _
    case qc3 => intro u hu; obtain ⟨x, _, rfl⟩ := List.mem_map.1 hu; rfl
    case qc4 => rw [Nat.zero_add]; exact hnb.out.2
    case qc5 => rw [Nat.zero_add]; exact hnb.out.1
    case qc6 => simp
    intro v' w1 hown hgrow hnil
    go_wp2
    go_ret
    refine ⟨v', rfl, fun m hm => ints_of_owns (Nat.zero_add _) hl (by simpa using hown) hm, ?_⟩
    exact ((Below.refl _ w).alloc (Nat.le_refl _) _).grown hgrow (by simp) (by intro k hk; simp [Value.ownBlock] at hk; omega)

set_option maxHeartbeats 1000000 in
set_option maxRecDepth 100000 in
/-- Clone of parts: nil of none, or a row of one's own. -/
theorem cloneP_any (B : Nat) (v : Value) (ts : List Tr) (w : World) (hB : B ≤ w.heap.size) (hx : Parts w B v ts) :
    Calls Tryz.prog 205 #[v] w fun e w' => ∃ v', e = .returned v' ∧ Below w.heap.size w w' ∧
      ((ts = [] ∧ v' = .slice none 0 0) ∨ ∃ g cap, v' = .slice (some ⟨g, 0, none⟩) ts.length cap ∧ ts.length ≤ cap ∧ w.heap.size ≤ g ∧ Row w' g 0 ts) := by
  obtain ⟨a, c, rfl, hc, hl, hI, hxx⟩ := hx
  have q22 : ∀ (w : World) (a : Option Addr) (n c n' c' : Nat), (binOp .eql 43 (.slice a n c) (.slice none n' c')).run Tryz.prog w = .ok (.bool a.isNone) w := fun w a n c n' c' => Lib.run_eql_slice_nil w _ _ a n c n' c' Tryz.underlying43
  cases a with
  | none =>
    obtain rfl : ts = [] := by
      cases ts with
      | nil => rfl
      | cons x l => obtain ⟨b, o, h, _⟩ := hxx (by simp); cases h
    clear hxx hI
    go_enter Tryz.func205, Tryz.ntmps205
    go_wp2
    go_ret
    exact ⟨_, rfl, Below.refl _ _, by simp⟩
  | some ad =>
    have A : Hid (∀ j u, (flat ts)[j]? = some u → ∀ o, (w.alloc o).cell? (ad.add j) = some u) := by
      intro j u hj o
      have hlt : j < ts.length * 2 := by rw [← flat_len]; exact (List.getElem?_eq_some_iff.1 hj).1
      obtain ⟨b, o', he, hb, hcell⟩ := hxx (by rintro rfl; simp at hlt)
      simp only [Option.some.injEq] at he
      subst he
      rw [Addr.add_lit, World.cell?_alloc_lt _ _ _ (by simp; omega)]
      exact flat_cells hcell j u hj
    have A1 : Hid (∀ u ∈ flat ts, u.oneCell' = true) := by
      intro u hu
      obtain ⟨t, ht, hu⟩ := List.mem_flatMap.1 hu
      obtain ⟨sa, sc, he, _⟩ := hI t ht
      simp only [List.mem_cons, List.not_mem_nil, or_false] at hu
      rcases hu with rfl | rfl
      · rw [he]; rfl
      · rfl
    obtain ⟨i0, hi, hz0, hz1, hz2⟩ := info_parts info32
    clear hxx hI
    have hnb : Hid (ts.length * 32 ≤ 140737488355328 ∧ ts.length ≤ maxLen) := ⟨by omega, by simp [maxLen]; omega⟩
    go_enter Tryz.func205, Tryz.ntmps205
    go_wp2_with (at_builtin; refine wpList_append_own _ rfl _ _ 43 rfl w.heap.size 82 i0 (.agg #[.slice none 0 0, .int .i64 0]) 2 32 Tryz.underlying43 hi hz0 hz1 hz2 rfl (by decide) _ _ _ rfl (World.ownsRow_made w #[] 0 (Nat.le_refl _) (Nat.zero_le _) (by simp)) ad ts.length c (flat ts) rfl ?qc1 ?qc2 ?qc3 ?qc4 ?qc5 ?qc6 ?_)
    case qc1 => exact flat_len ts
    case qc2 => intro j u hj; exact A.out j u hj _
    case qc3 => exact A1.out
    case qc4 => rw [Nat.zero_add]; exact hnb.out.2
    case qc5 => rw [Nat.zero_add]; exact hnb.out.1
    case qc6 => simp
    intro v' w1 hown hgrow hnil
    go_wp2
    go_ret
    refine ⟨v', rfl, ?_, .inr ?_⟩
    · exact ((Below.refl _ w).alloc (Nat.le_refl _) _).grown hgrow (by simp) (by intro k hk; simp [Value.ownBlock] at hk; omega)
    · exact row_of_owns (Nat.zero_add _) (by simpa using hown) hnil

/-! ### the sort -/

/-- a part that can be read -/
abbrev RP (w : World) (B : Nat) := { t : Tr // Ints w B B t.1 t.2.1 }

theorem below_sort {α : Type} [Inhabited α] (enc : α → List Value) (w : World) (B blk off m : Nat) (d : Array α) (os : Array Obj) (h : B ≤ blk) (hb : blk < w.heap.size) : Below B w (sortWorldK enc 2 w blk off m d os) := by
  refine ⟨rfl, rfl, rfl, ?_, fun k hk => ?_⟩
  · simp [sortWorldK, putRowK, putRow, mapBlock, grow]
  · have hk2 : k < w.heap.size := by omega
    simp only [sortWorldK, putRowK, putRow, mapBlock, grow]
    rw [Array.getElem?_append_left (by simpa using hk2), Array.getElem?_modify, if_neg (by omega)]
    rfl

theorem swo_cmp {w : World} {B : Nat} : SWO (ltOf fun x y : RP w B => cmpT x.1.2.1 y.1.2.1) where
  irrefl x := by simp [ltOf, cmpT_self]
  trans x y z h1 h2 := by
    simp only [ltOf, decide_eq_true_eq] at *
    exact ltL_trans h1 h2
  ntrans x y z h1 h2 := by
    simp only [ltOf, decide_eq_false_iff_not] at *
    intro h
    rcases ltL_tri x.1.2.1 y.1.2.1 with c | c | c
    · exact h1 c
    · rw [← c] at h2; exact h2 h
    · exact h2 (ltL_trans c h)

/-- a readable part's two cells -/
def encP {w : World} {B : Nat} (x : RP w B) : List Value := [x.1.1, .int .i64 x.1.2.2]

theorem ints_nil (w : World) (B nb : Nat) : Ints w B nb (.slice none 0 0) [] := ⟨none, 0, rfl, Nat.le_refl _, by simp, fun h => absurd rfl h⟩

theorem readables {w : World} {B : Nat} : ∀ {ts : List Tr}, (∀ t ∈ ts, Ints w B B t.1 t.2.1) → ∃ l : List (RP w B), l.map (·.1) = ts
  | [], _ => ⟨[], rfl⟩
  | t :: ts, h => by
    obtain ⟨l, hl⟩ := readables (ts := ts) fun u hu => h u (by simp [hu])
    exact ⟨⟨t, h t (by simp)⟩ :: l, by simp [hl]⟩

set_option maxHeartbeats 1000000 in
theorem sortP_any (B R c : Nat) (ts : List Tr) (w : World) (hB : B ≤ R) (hR : Row w R 0 ts) (hI : ∀ t ∈ ts, Ints w B B t.1 t.2.1) (hl : ts.length ≤ 1073741824) :
    Calls Tryz.prog 206 #[.slice (some ⟨R, 0, none⟩) ts.length c, .func (.func 150) #[] #[]] w fun e w' => e = .returned (.tuple #[]) ∧
      ∃ us, us.Perm ts ∧ us.Pairwise (fun a b => ¬ ltL b.2.1 a.2.1) ∧ Row w' R 0 us ∧ Below R w w' := by
  obtain ⟨l, hll⟩ := readables hI
  have inst : Inhabited (RP w B) := ⟨⟨(.slice none 0 0, [], 0), ints_nil w B B⟩⟩
  have hlen : ts.length = l.toArray.size := by rw [← hll]; simp
  have hget : ∀ i, i < l.toArray.size → ts[i]? = some (l.toArray[i]!).1 := by
    intro i hi
    rw [← hll, List.getElem?_map, getElem!_pos l.toArray i hi]
    simp at hi
    simp [hi]
  have eg : ∀ args w, (callFunc 150 args).run Tryz.prog w = .ok (.enter 150 args) w := enters_of Tryz.func150 (by kernel_rfl) rfl
  have hH : HoldsK encP 2 w R 0 l.toArray := by
    intro j hj
    rw [size_flatK] at hj
    have h2 : j / 2 < l.toArray.size := by omega
    have hc := hR.cells _ _ (hget _ h2)
    refine ⟨?_, hR.thaw j (by omega)⟩
    show w.cell? ⟨R, 0 + j, none⟩ = some ((flatK encP 2 l.toArray)[j]!)
    rw [get_flatK _ _ _ _ hj]
    rcases Nat.mod_two_eq_zero_or_one j with hm | hm
    · rw [hm, show 0 + j = 0 + j / 2 * 2 by omega, hc.1]; rfl
    · rw [hm, show 0 + j = 0 + j / 2 * 2 + 1 by omega, hc.2]; rfl
  have hcmp : CmpLays Tryz.prog 150 #[] (encP (w := w) (B := B)) 2 (fun x y => cmpT x.1.2.1 y.1.2.1) R 0 l.toArray.size w := by
    intro m os dk hdk x y
    have hb := below_sort (encP (w := w) (B := B)) w B R 0 m dk os hB hR.lt
    have hsz : B ≤ (sortWorldK (encP (w := w) (B := B)) 2 w R 0 m dk os).heap.size := by have := hb.size; have := hR.lt; omega
    refine (order_any B B B x.1.1 y.1.1 x.1.2.2 y.1.2.2 x.1.2.1 y.1.2.1 _ hsz (x.2.keep hb) (y.2.keep hb) _ rfl).mono ?_
    rintro e w' ⟨rfl, o1, o2, rfl⟩
    exact ⟨rfl, 0, #[o1, o2], by rw [alloc_eq_grow, alloc_eq_grow, grow_grow]; rfl⟩
  have h1 : ∀ x : RP w B, ∀ v ∈ encP x, v.oneCell' = true := by
    intro x v hv
    simp only [encP, List.mem_cons, List.not_mem_nil, or_false] at hv
    obtain ⟨sa, sc, he, _⟩ := x.2
    rcases hv with rfl | rfl
    · rw [he]; rfl
    · rfl
  have hcon := AnyQ.slices_SortFunc Tryz.sortP 2 Tryz.isAgg82 Tryz.sizeOf82 (encP (w := w) (B := B)) (fun _ => rfl) h1 (fun x y => cmpT x.1.2.1 y.1.2.1) swo_cmp 150 #[] R 0 c l.toArray w eg hcmp hH hR.lt (by omega)
  change Calls Tryz.prog 206 _ _ _ at hcon
  rw [hlen]
  refine hcon.mono ?_
  rintro e w' ⟨rfl, d', n, os, hp, hs, rfl⟩
  refine ⟨rfl, d'.toList.map (·.1), ?_, ?_, ?_, below_sort _ w R R 0 n d' os (Nat.le_refl _) hR.lt⟩
  · have h3 := hp.2.2
    rw [← hll]
    refine List.Perm.map _ ?_
    have e : l.length = d'.toList.length := by have := hp.1; simp at this; simp [this]
    simp at h3
    rw [e, List.take_length] at h3
    exact h3
  · rw [List.pairwise_map, List.pairwise_iff_getElem]
    intro i j hi hj hij
    have := hs i j (Nat.zero_le _) hij (by rw [← hp.1]; simpa using hj)
    simp only [Array.length_toList] at hi hj
    rw [getElem!_pos d' i hi, getElem!_pos d' j hj] at this
    simpa [ltOf] using this
  · have hH2 : HoldsK encP 2 (sortWorldK (encP (w := w) (B := B)) 2 w R 0 n d' os) R 0 d' := holdsK_sortWorldK_c _ _ _ _ _ _ _ _ _ hH hR.lt hp.1
    refine ⟨fun i t ht => ?_, fun j hj => ?_, Nat.lt_of_lt_of_le hR.lt (below_sort _ w R R 0 n d' os (Nat.le_refl _) hR.lt).size⟩
    · have hi : i < d'.size := by have := (List.getElem?_eq_some_iff.1 ht).1; simpa using this
      have ht2 : t = (d'[i]!).1 := by rw [getElem!_pos d' i hi]; simp [hi] at ht; exact ht.symm
      have c0 := (hH2.cell hi (show 0 < 2 by decide)).1
      have c1 := (hH2.cell hi (show 1 < 2 by decide)).1
      subst ht2
      exact ⟨c0, c1⟩
    · have := (hH2 j (by rw [size_flatK]; simpa using hj)).2
      exact this
end Go.Proofs.YtlndlpjadajelaaGreat
