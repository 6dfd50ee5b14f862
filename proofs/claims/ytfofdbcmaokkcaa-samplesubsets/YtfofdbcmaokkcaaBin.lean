import Derived.Test.YtfofdbcmaokkcaaEql
import Derived.Test.YtfofdbcmaokkcaaRmk
namespace Go.Proofs.Ytfofdbcmaokkcaa
open Go.RowKit Go.Proofs.Ytfofdbcmaokkcaa.Ds

/-- below i all are less than y, from j on none -/
def Cutp (l : List Pt) (y : List Int) (i j : Nat) : Prop := (∀ q p, q < i → l[q]? = some p → ltL p.1 y) ∧ (∀ q p, j ≤ q → l[q]? = some p → ¬ ltL p.1 y)

theorem rise_get {l : List Pt} (h : Rise l) {i j : Nat} {p q : Pt} (hij : i < j) (hi : l[i]? = some p) (hj : l[j]? = some q) : ltL p.1 q.1 := by
  obtain ⟨h1, rfl⟩ := List.getElem?_eq_some_iff.1 hi
  obtain ⟨h2, rfl⟩ := List.getElem?_eq_some_iff.1 hj
  exact List.pairwise_iff_getElem.1 h i j h1 h2 hij

theorem Cutp.up {l : List Pt} {y : List Int} {i j h : Nat} {p : Pt} (c : Cutp l y i j) (hr : Rise l) (hp : l[h]? = some p) (hlt : ltL p.1 y) : Cutp l y (h + 1) j := by
  refine ⟨fun q r hq hr2 => ?_, c.2⟩
  by_cases hqh : q = h
  · subst hqh; rw [hp] at hr2; simp at hr2; subst hr2; exact hlt
  · exact ltL_trans (rise_get hr (by omega) hr2 hp) hlt

theorem Cutp.down {l : List Pt} {y : List Int} {i j h : Nat} {p : Pt} (c : Cutp l y i j) (hr : Rise l) (hp : l[h]? = some p) (hge : ¬ ltL p.1 y) : Cutp l y i h := by
  refine ⟨c.1, fun q r hq hr2 hlt => ?_⟩
  by_cases hqh : q = h
  · subst hqh; rw [hp] at hr2; simp at hr2; subst hr2; exact hge hlt
  · exact hge (ltL_trans (rise_get hr (by omega) hp hr2) hlt)

/-- what stands at i, or none -/
theorem Cutp.none {l : List Pt} {y : List Int} {i : Nat} (c : Cutp l y i i) (hr : Rise l) (h : ∀ p, l[i]? = some p → p.1 ≠ y) : ∀ p ∈ l, p.1 ≠ y := by
  intro p hp he
  obtain ⟨q, hq, rfl⟩ := List.mem_iff_getElem.1 hp
  have hq2 : l[q]? = some l[q] := List.getElem?_eq_getElem hq
  rcases Nat.lt_trichotomy q i with h1 | h1 | h1
  · have := c.1 q _ h1 hq2; rw [he] at this; exact ltL_irrefl _ this
  · subst h1; exact h _ hq2 he
  · obtain ⟨r, hr2⟩ := get_lt (l := l) (i := i) (by omega)
    have h2 := rise_get hr h1 hr2 hq2
    rw [he] at h2
    exact c.2 i r (Nat.le_refl _) hr2 h2

end Go.Proofs.Ytfofdbcmaokkcaa
