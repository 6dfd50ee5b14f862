import Derived.Test.YtfcbkcoagoncoaaQf12
import Derived.Laws.IdiomCopy
namespace Go.Proofs.Ytfcbkcoagoncoaa
open Go.RowKit Go.Proofs.Ytfcbkcoagoncoaa.Ds

theorem sc_other {w : World} {a b : Addr} {v : Value} (h : a ≠ b) : (w.setCell a v).cell? b = w.cell? b := World.cell?_setCell_other _ _ _ _ h
theorem sc_same {w : World} {a : Addr} {u v : Value} (h : w.cell? a = some u) : (w.setCell a v).cell? a = some v := World.cell?_setCell_same _ _ _ h
theorem sc_frozen {w : World} {a b : Addr} {v : Value} : (w.setCell a v).frozen? b = w.frozen? b := World.frozen?_setCell _ _ _ _

/-- A ROW OF PARTS THAT MAY BE WRITTEN. -/
structure Row (w : World) (b o : Nat) (us : List Tr) : Prop where
  cells : Cells w b o us
  thaw : ∀ j, j < us.length * 2 → w.frozen? ⟨b, o + j, none⟩ = false
  lt : b < w.heap.size

theorem Row.keep {w w' : World} {b o : Nat} {us : List Tr} (h : Row w b o us) (hb : Below w.heap.size w w') : Row w' b o us :=
  ⟨h.cells.keep hb h.lt, fun j hj => (hb.frozen (p := ⟨b, o + j, none⟩) h.lt).trans (h.thaw j hj), Nat.lt_of_lt_of_le h.lt hb.size⟩

theorem Cells.len_cell {w : World} {b o : Nat} {us : List Tr} (h : Cells w b o us) {i : Nat} (hi : i < us.length) : (w.cell? ⟨b, o + i * 2, none⟩).isSome = true ∧ (w.cell? ⟨b, o + i * 2 + 1, none⟩).isSome = true := by
  obtain ⟨t, ht⟩ := get_lt hi
  obtain ⟨h1, h2⟩ := h i t ht
  exact ⟨by rw [h1]; rfl, by rw [h2]; rfl⟩

/-- a weight is stored -/
theorem Row.setW {w : World} {b o : Nat} {us : List Tr} (h : Row w b o us) {i : Nat} {t : Tr} (ht : us[i]? = some t) (k : Int) :
    Row (w.setCell ⟨b, o + i * 2 + 1, none⟩ (.int .i64 k)) b o (us.set i (t.1, t.2.1, k)) := by
  have hi := (List.getElem?_eq_some_iff.1 ht).1
  refine ⟨fun j u hu => ?_, fun j hj => by rw [sc_frozen]; exact h.thaw j (by simpa using hj), by simpa using h.lt⟩
  by_cases hj : i = j
  · subst hj
    rw [List.getElem?_set_self hi] at hu
    obtain rfl : (t.1, t.2.1, k) = u := by simpa using hu
    have c := h.cells i t ht
    exact ⟨by rw [sc_other (by simp)]; exact c.1, sc_same c.2⟩
  · rw [List.getElem?_set_ne hj] at hu
    have c := h.cells j u hu
    exact ⟨by rw [sc_other (by simp <;> omega)]; exact c.1, by rw [sc_other (by simp <;> omega)]; exact c.2⟩

/-- a part is stored -/
theorem Row.setP {w : World} {b o : Nat} {us : List Tr} (h : Row w b o us) {i : Nat} (hi : i < us.length) (t : Tr) :
    Row (w.setCells b (o + i * 2) [t.1, .int .i64 t.2.2]) b o (us.set i t) := by
  have hs := h.cells.len_cell hi
  have e1 : ∀ a : Addr, (w.setCells b (o + i * 2) [t.1, .int .i64 t.2.2]).cell? a = ((w.setCell ⟨b, o + i * 2, none⟩ t.1).setCell ⟨b, o + i * 2 + 1, none⟩ (.int .i64 t.2.2)).cell? a := fun a => rfl
  refine ⟨fun j u hu => ?_, fun j hj => by rw [World.frozen?_setCells]; exact h.thaw j (by simpa using hj), ?_⟩
  · rw [e1, e1]
    by_cases hj : i = j
    · subst hj
      rw [List.getElem?_set_self hi] at hu
      obtain rfl : t = u := by simpa using hu
      refine ⟨?_, ?_⟩
      · rw [sc_other (by simp)]
        exact World.cell?_setCell_same' _ _ _ hs.1
      · refine World.cell?_setCell_same' _ _ _ ?_
        rw [sc_other (by simp)]
        exact hs.2
    · rw [List.getElem?_set_ne hj] at hu
      have c := h.cells j u hu
      exact ⟨by rw [sc_other (by simp <;> omega), sc_other (by simp <;> omega)]; exact c.1, by rw [sc_other (by simp <;> omega), sc_other (by simp <;> omega)]; exact c.2⟩
  · show b < (((w.setCell ⟨b, o + i * 2, none⟩ t.1).setCell ⟨b, o + i * 2 + 1, none⟩ (.int .i64 t.2.2))).heap.size
    simpa using h.lt

/-- PARTS IN MEMORY OF ONE's OWN, from block lo on; their lists lie elsewhere. -/
def Own (w : World) (lo : Nat) (v : Value) (ts : List Tr) : Prop :=
  ∃ b o c, v = .slice (some ⟨b, o, none⟩) ts.length c ∧ ts.length ≤ c ∧ ts.length ≤ 1073741824 ∧ lo ≤ b ∧ Row w b o ts ∧ ∀ t ∈ ts, Ints w w.heap.size b t.1 t.2.1

theorem Own.parts {w : World} {lo : Nat} {v : Value} {ts : List Tr} (h : Own w lo v ts) : Parts w w.heap.size v ts := by
  obtain ⟨b, o, c, hv, hc, hl, _, hr, hi⟩ := h
  refine ⟨_, c, hv, hc, hl, fun t ht => ?_, fun _ => ⟨b, o, rfl, hr.lt, hr.cells⟩⟩
  exact (hi t ht).mono (Nat.le_refl _) (.inr (Nat.le_refl _))

theorem Own.keep {w w' : World} {lo : Nat} {v : Value} {ts : List Tr} (h : Own w lo v ts) (hb : Below w.heap.size w w') : Own w' lo v ts := by
  obtain ⟨b, o, c, hv, hc, hl, hlo, hr, hi⟩ := h
  exact ⟨b, o, c, hv, hc, hl, hlo, hr.keep hb, fun t ht => ((hi t ht).keep hb).mono hb.size (.inl rfl)⟩

theorem Own.mono {w : World} {lo lo' : Nat} {v : Value} {ts : List Tr} (h : Own w lo v ts) (hl : lo' ≤ lo) : Own w lo' v ts := by
  obtain ⟨b, o, c, hv, hc, hl', hlo, hr, hi⟩ := h
  exact ⟨b, o, c, hv, hc, hl', by omega, hr, hi⟩

/-- the lists lie in blocks from lo on -/
def Frs (lo : Nat) (ts : List Tr) : Prop := ∀ t ∈ ts, t.2.1 ≠ [] → ∀ b o sp n c, t.1 = .slice (some ⟨b, o, sp⟩) n c → lo ≤ b
theorem Frs.mono {lo lo' : Nat} {ts : List Tr} (h : Frs lo ts) (hl : lo' ≤ lo) : Frs lo' ts := fun t ht hne b o sp n c e => Nat.le_trans hl (h t ht hne b o sp n c e)
theorem Frs.of {lo : Nat} {ts us : List Tr} (h : Frs lo ts) (hu : ∀ t ∈ us, ∃ u ∈ ts, t.1 = u.1 ∧ t.2.1 = u.2.1) : Frs lo us := by
  intro t ht hne b o sp n c e
  obtain ⟨u, hu1, e1, e2⟩ := hu t ht
  exact h u hu1 (e2 ▸ hne) b o sp n c (e1 ▸ e)
theorem Frs.nil (lo : Nat) : Frs lo [] := fun t ht => by cases ht
theorem fr_of {w : World} {B lo : Nat} {s : Value} {xs : List Int} (h : ∀ m, m < lo → Ints w B m s xs) : xs ≠ [] → ∀ b o sp n c, s = .slice (some ⟨b, o, sp⟩) n c → lo ≤ b := by
  intro hne b o sp n c e
  rcases Nat.lt_or_ge b lo with hb | hb
  · obtain ⟨a, c', hv, _, _, hx⟩ := h b hb
    obtain ⟨b', o', ha, _, hn, _⟩ := hx hne
    rw [hv, ha] at e
    simp only [Value.slice.injEq, Option.some.injEq, Addr.mk.injEq] at e
    exact absurd e.1.1 hn
  · exact hb

theorem parts_nil (w : World) (B : Nat) : Parts w B (.slice none 0 0) [] := ⟨none, 0, rfl, Nat.le_refl _, by simp, by simp, fun h => absurd rfl h⟩

end Go.Proofs.Ytfcbkcoagoncoaa
