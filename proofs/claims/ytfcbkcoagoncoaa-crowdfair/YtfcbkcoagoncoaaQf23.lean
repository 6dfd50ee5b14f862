import Derived.Test.YtfcbkcoagoncoaaQf22
import Derived.Maps.AppendAt
import Derived.Deep.RegionWith
namespace Go.Proofs.Ytfcbkcoagoncoaa
open Go.RowKit Go.Proofs.Ytfcbkcoagoncoaa.Ds

/-- PARTS OF ONE's OWN THAT GROW: a row, and each part's numbers outside of it -/
def Rws (w : World) (lo : Nat) (v : Value) (ds : List Tr) : Prop :=
  w.ownsRow lo 37 2 v ds.length (flat ds) ∧ ∀ t ∈ ds, ∃ m, Ints w w.heap.size m t.1 t.2.1 ∧ ∀ g, v.ownBlock = some g → m = g

theorem Rws.nil (w : World) (lo : Nat) : Rws w lo (.slice none 0 0) [] := ⟨⟨rfl, .inl ⟨rfl, rfl⟩⟩, fun t ht => by cases ht⟩
theorem Rws.keep {w w' : World} {lo : Nat} {v : Value} {ds : List Tr} (h : Rws w lo v ds) (hb : Below w.heap.size w w') : Rws w' lo v ds :=
  ⟨owns_below h.1 hb, fun t ht => let ⟨m, h1, h2⟩ := h.2 t ht; ⟨m, h1.at2 hb, h2⟩⟩
theorem Rws.slice {w : World} {lo : Nat} {v : Value} {ds : List Tr} (h : Rws w lo v ds) : ∃ a c, v = .slice a ds.length c := owns_slice h.1
theorem Rws.lt {w : World} {lo : Nat} {v : Value} {ds : List Tr} (h : Rws w lo v ds) : ∀ g, v.ownBlock = some g → lo ≤ g ∧ g < w.heap.size := h.1.lt

theorem Ints.grow {W w' : World} {B m m' : Nat} {s : Value} {xs : List Int} {row : Option Nat} (h : Ints W B m s xs) (hg : W.grownBy w' row) (hB : B ≤ W.heap.size) (hrow : ∀ g, row = some g → m = g) (hm : m' = m ∨ B ≤ m') : Ints w' w'.heap.size m' s xs := by
  obtain ⟨a, c, hv, hc, hl, hx⟩ := h
  refine ⟨a, c, hv, hc, hl, fun hne => ?_⟩
  obtain ⟨b, o, ha, hb, hn, hcell⟩ := hx hne
  have := hg.size
  refine ⟨b, o, ha, by omega, by rcases hm with h | h <;> omega, fun i x hi => ?_⟩
  refine hg.cell (hcell i x hi) fun e => hn ?_
  exact (hrow b e.symm).symm

theorem Rws.app {W w' : World} {lo : Nat} {v v' s : Value} {ds : List Tr} {xs : List Int} {k : Int} {m : Nat} (h : Rws W lo v ds) (hown : w'.ownsRow lo 37 2 v' (ds.length + 1) (flat ds ++ [s, .int .i64 k])) (hg : W.grownBy w' v.ownBlock)
    (hat : v'.ownBlock = v.ownBlock ∨ v'.ownBlock = some W.heap.size) (hi : Ints W W.heap.size m s xs) (hm : ∀ g, v.ownBlock = some g → m = g) : Rws w' lo v' (ds ++ [(s, xs, k)]) := by
  refine ⟨by rw [← flat_snoc]; simpa using hown, fun t ht => ?_⟩
  have key : ∀ (m : Nat) (s : Value) (xs : List Int), Ints W W.heap.size m s xs → (∀ g, v.ownBlock = some g → m = g) → ∃ m', Ints w' w'.heap.size m' s xs ∧ ∀ g, v'.ownBlock = some g → m' = g := by
    intro m s xs h1 h2
    rcases hat with hat | hat
    · exact ⟨m, h1.grow hg (Nat.le_refl _) h2 (.inl rfl), by rw [hat]; exact h2⟩
    · exact ⟨W.heap.size, h1.grow hg (Nat.le_refl _) h2 (.inr (Nat.le_refl _)), by rw [hat]; intro g e; simpa using e⟩
  rcases List.mem_append.1 ht with ht | ht
  · obtain ⟨m, h1, h2⟩ := h.2 t ht
    exact key m t.1 t.2.1 h1 h2
  · obtain rfl : t = (s, xs, k) := by simpa using ht
    exact key m s xs hi hm

theorem Rws.more {W w' : World} {lo : Nat} {v s : Value} {ds : List Tr} {xs : List Int} {k : Int} {m g cap : Nat} (h : Rws W lo v ds) (hown : w'.ownsRow lo 37 2 (.slice (some ⟨g, 0, none⟩) (ds.length + 1) cap) (ds.length + 1) (flat ds ++ [s, .int .i64 k])) (hg : W.grownBy w' v.ownBlock)
    (hat : v.ownBlock = some g ∨ g = W.heap.size) (hi : Ints W W.heap.size m s xs) (hm : ∀ g, v.ownBlock = some g → m = g) : Rws w' lo (.slice (some ⟨g, 0, none⟩) (ds.length + 1) cap) (ds ++ [(s, xs, k)]) :=
  h.app hown hg (hat.imp (fun e => by rw [e]; rfl) (fun e => by rw [e]; rfl)) hi hm

theorem Rws.parts {w : World} {lo : Nat} {v : Value} {ds : List Tr} (h : Rws w lo v ds) (hl : ds.length ≤ 1073741824) : Parts w w.heap.size v ds := by
  have hi : ∀ t ∈ ds, Ints w w.heap.size w.heap.size t.1 t.2.1 := fun t ht => let ⟨m, h1, _⟩ := h.2 t ht; h1.mono (Nat.le_refl _) (.inr (Nat.le_refl _))
  by_cases hv : v = .slice none 0 0
  · subst hv
    have h0 : ds = [] := by
      obtain ⟨_, ⟨_, h0⟩ | ⟨g, cap, cur, hv, _⟩⟩ := h.1
      · exact List.length_eq_zero_iff.1 h0
      · cases hv
    subst h0
    exact parts_nil w _
  · obtain ⟨g, cap, rfl, hcap, hgb, hrow⟩ := row_of_owns rfl h.1 hv
    exact ⟨_, cap, rfl, hcap, hl, hi, fun _ => ⟨g, 0, rfl, hrow.lt, hrow.cells⟩⟩

end Go.Proofs.Ytfcbkcoagoncoaa
