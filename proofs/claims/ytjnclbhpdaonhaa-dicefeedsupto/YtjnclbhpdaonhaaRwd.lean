import Derived.Test.YtjnclbhpdaonhaaTid
import Derived.Test.YtjnclbhpdaonhaaDrw
import Derived.Maps.AppendAt
import Derived.Deep.RegionWith
namespace Go.Proofs.Ytjnclbhpdaonhaa
open Go.RowKit Go.Proofs.Ytjnclbhpdaonhaa.Ds

theorem row_of_ownsD {w : World} {base : Nat} {v : Value} {ts : List Tr} {n : Nat} (hn : n = ts.length) (h : w.ownsRow base 38 2 v n (flat ts)) (hne : v ≠ .slice none 0 0) :
    ∃ g cap, v = .slice (some ⟨g, 0, none⟩) ts.length cap ∧ ts.length ≤ cap ∧ base ≤ g ∧ Row w g 0 ts := by
  subst hn
  obtain ⟨_, ⟨hv, _⟩ | ⟨g, cap, cur, hv, hb, hcur, hc, _, hsz, hx⟩⟩ := h
  · exact absurd hv hne
  · have hget : ∀ j u, (flat ts)[j]? = some u → w.cell? ⟨g, 0 + j, none⟩ = some u := by
      intro j u hj
      have hj2 : j < ts.length * 2 := by rw [← flat_len]; exact (List.getElem?_eq_some_iff.1 hj).1
      have : cur[j]? = some u := by
        rw [← hx, List.getElem?_take_of_lt hj2] at hj
        simpa using hj
      simp [World.cell?, hcur, this]
    refine ⟨g, cap, hv, hc, hb, ⟨fun i t ht => ?_, fun j _ => frozen_zero hcur, (Array.getElem?_eq_some_iff.1 hcur).1⟩⟩
    have hg := flat_get ts i
    exact ⟨hget _ _ (by rw [hg.1, ht]; rfl), by rw [Nat.add_assoc]; exact hget _ _ (by rw [hg.2, ht]; rfl)⟩

/-- PARTS OF ONE's OWN THAT GROW: a row, and each part's numbers outside of it -/
def Rwd (w : World) (lo : Nat) (v : Value) (ds : List Tr) : Prop :=
  w.ownsRow lo 38 2 v ds.length (flat ds) ∧ ∀ t ∈ ds, ∃ m, Ints w w.heap.size m t.1 t.2.1 ∧ ∀ g, v.ownBlock = some g → m = g

theorem Rwd.nil (w : World) (lo : Nat) : Rwd w lo (.slice none 0 0) [] := ⟨⟨rfl, .inl ⟨rfl, rfl⟩⟩, fun t ht => by cases ht⟩
theorem Rwd.keep {w w' : World} {lo : Nat} {v : Value} {ds : List Tr} (h : Rwd w lo v ds) (hb : Below w.heap.size w w') : Rwd w' lo v ds :=
  ⟨owns_below h.1 hb, fun t ht => let ⟨m, h1, h2⟩ := h.2 t ht; ⟨m, h1.at2 hb, h2⟩⟩
theorem Rwd.slice {w : World} {lo : Nat} {v : Value} {ds : List Tr} (h : Rwd w lo v ds) : ∃ a c, v = .slice a ds.length c := owns_slice h.1
theorem Rwd.lt {w : World} {lo : Nat} {v : Value} {ds : List Tr} (h : Rwd w lo v ds) : ∀ g, v.ownBlock = some g → lo ≤ g ∧ g < w.heap.size := h.1.lt

theorem Ints.grow {W w' : World} {B m m' : Nat} {s : Value} {xs : List Int} {row : Option Nat} (h : Ints W B m s xs) (hg : W.grownBy w' row) (hB : B ≤ W.heap.size) (hrow : ∀ g, row = some g → m = g) (hm : m' = m ∨ B ≤ m') : Ints w' w'.heap.size m' s xs := by
  obtain ⟨a, c, hv, hc, hl, hx⟩ := h
  refine ⟨a, c, hv, hc, hl, fun hne => ?_⟩
  obtain ⟨b, o, ha, hb, hn, hcell⟩ := hx hne
  have := hg.size
  refine ⟨b, o, ha, by omega, by rcases hm with h | h <;> omega, fun i x hi => ?_⟩
  refine hg.cell (hcell i x hi) fun e => hn ?_
  exact (hrow b e.symm).symm

theorem Rwd.app {W w' : World} {lo : Nat} {v v' s : Value} {ds : List Tr} {xs : List Int} {k : Int} {m : Nat} (h : Rwd W lo v ds) (hown : w'.ownsRow lo 38 2 v' (ds.length + 1) (flat ds ++ [s, .int .i64 k])) (hg : W.grownBy w' v.ownBlock)
    (hat : v'.ownBlock = v.ownBlock ∨ v'.ownBlock = some W.heap.size) (hi : Ints W W.heap.size m s xs) (hm : ∀ g, v.ownBlock = some g → m = g) : Rwd w' lo v' (ds ++ [(s, xs, k)]) := by
  refine ⟨by rw [← flat_snoc]; simpa using hown, fun t ht => ?_⟩
  have key : ∀ (m : Nat) (s : Value) (xs : List Int), Ints W W.heap.size m s xs → (∀ g, v.ownBlock = some g → m = g) → ∃ m', Ints w' w'.heap.size m' s xs ∧ ∀ g, v'.ownBlock = some g → m' = g := by
    intro m s xs h1 h2
    rcases hat with hat | hat
    · exact ⟨m, h1.grow hg (Nat.le_refl _) h2 (.inl rfl), by rw [hat]; exact h2⟩
    · exact ⟨W.heap.size, h1.grow hg (Nat.le_refl _) h2 (.inr (Nat.le_refl _)), by rw [hat]; intro g e; simpa using e⟩
  rcases List.mem_append.1 ht with ht | ht
  · obtain ⟨m, h1, h2⟩ := h.2 t ht
    exact key m t.1 t.2.1 h1 h2
  · obtain rfl : t = (s, xs, k) := by simpa using ht
    exact key m s xs hi hm

theorem Rwd.more {W w' : World} {lo : Nat} {v s : Value} {ds : List Tr} {xs : List Int} {k : Int} {m g cap : Nat} (h : Rwd W lo v ds) (hown : w'.ownsRow lo 38 2 (.slice (some ⟨g, 0, none⟩) (ds.length + 1) cap) (ds.length + 1) (flat ds ++ [s, .int .i64 k])) (hg : W.grownBy w' v.ownBlock)
    (hat : v.ownBlock = some g ∨ g = W.heap.size) (hi : Ints W W.heap.size m s xs) (hm : ∀ g, v.ownBlock = some g → m = g) : Rwd w' lo (.slice (some ⟨g, 0, none⟩) (ds.length + 1) cap) (ds ++ [(s, xs, k)]) :=
  h.app hown hg (hat.imp (fun e => by rw [e]; rfl) (fun e => by rw [e]; rfl)) hi hm

theorem Rwd.parts {w : World} {lo : Nat} {v : Value} {ds : List Tr} (h : Rwd w lo v ds) (hl : ds.length ≤ 1073741824) : Parts w w.heap.size v ds := by
  have hi : ∀ t ∈ ds, Ints w w.heap.size w.heap.size t.1 t.2.1 := fun t ht => let ⟨m, h1, _⟩ := h.2 t ht; h1.mono (Nat.le_refl _) (.inr (Nat.le_refl _))
  by_cases hv : v = .slice none 0 0
  · subst hv
    have h0 : ds = [] := by
      obtain ⟨_, ⟨_, h0⟩ | ⟨g, cap, cur, hv, _⟩⟩ := h.1
      · exact List.length_eq_zero_iff.1 h0
      · cases hv
    subst h0
    exact parts_nil w _
  · obtain ⟨g, cap, rfl, hcap, hgb, hrow⟩ := row_of_ownsD rfl h.1 hv
    exact ⟨_, cap, rfl, hcap, hl, hi, fun _ => ⟨g, 0, rfl, hrow.lt, hrow.cells⟩⟩


theorem info38 : (Try.prog.info? 38).map (fun i => (i.zero, i.size, i.bytes)) = some (some (.agg #[.slice none 0 0, .int .i64 0]), 2, 32) := by kernel_rfl

theorem Rwd.gb {w w' : World} {lo E : Nat} {v : Value} {ds : List Tr} (h : Rwd w lo v ds) (hg : w.grownBy w' (some E)) (hE : E < lo) (hf : Frs lo ds) : Rwd w' lo v ds := by
  refine ⟨h.1.kept hg ?_, fun t ht => ?_⟩
  · cases e : v.ownBlock with
    | none => exact .inl rfl
    | some g => exact .inr (by have := (h.lt g e).1; simp; omega)
  · obtain ⟨m, ⟨a, c, hv, hc, hl, hx⟩, h2⟩ := h.2 t ht
    refine ⟨m, ⟨a, c, hv, hc, hl, fun hne => ?_⟩, h2⟩
    obtain ⟨b, o, ha, hb, hn, hcell⟩ := hx hne
    have := hf t ht hne b o none t.2.1.length c (by rw [hv, ha])
    have := hg.size
    exact ⟨b, o, ha, by omega, hn, fun i x hi => hg.cell (hcell i x hi) (by simp; omega)⟩
theorem Frs.snoc {lo : Nat} {ds : List Tr} {t : Tr} (h : Frs lo ds) (ht : t.2.1 ≠ [] → ∀ b o sp n c, t.1 = .slice (some ⟨b, o, sp⟩) n c → lo ≤ b) : Frs lo (ds ++ [t]) := by
  intro u hu
  rcases List.mem_append.1 hu with h1 | h1
  · exact h u h1
  · obtain rfl : u = t := by simpa using h1
    exact ht
theorem own_or {v : Value} {n : Nat} (h : ∀ g, v.ownBlock = some g → g < n) (hn : 0 < n) : ∃ m, m < n ∧ ∀ g, v.ownBlock = some g → m = g := by
  cases e : v.ownBlock with
  | none => exact ⟨0, hn, fun g e => by cases e⟩
  | some g => exact ⟨g, h g e, fun g' e => by simpa using e⟩

/-- all draws -/
def drawsT (nx : Nx) (bits : List Int) (times : Int) : List Pt × Int := if wrB bits times = 0 then (drT nx times.toNat bits, 0) else ([], wrB bits times)
/-- what is answered lies in new memory -/
def NewAt (lo : Nat) (v : Value) (ds : List Tr) : Prop := (∀ g, v.ownBlock = some g → lo ≤ g) ∧ Frs lo ds
theorem NewAt.nil (lo : Nat) : NewAt lo (.slice none 0 0) [] := ⟨fun g h => by simp [Value.ownBlock] at h, Frs.nil lo⟩
theorem NewAt.mono {lo lo' : Nat} {v : Value} {ds : List Tr} (h : NewAt lo v ds) (hl : lo' ≤ lo) : NewAt lo' v ds := ⟨fun g e => Nat.le_trans hl (h.1 g e), h.2.mono hl⟩

/-- WHAT draws ANSWERS -/
def DrawsP (E : Nat) (l : List Pt) (er : Int) (w : World) (e : Ending) (w' : World) : Prop :=
  ∃ v' ds, e = .returned (.tuple #[v', .int .i64 er]) ∧ rd ds = l ∧ Parts w' w'.heap.size v' ds ∧ w.grownBy w' (some E) ∧ NewAt w.heap.size v' ds
/-- WHAT Rolls AND Evens ANSWER -/
def AnsP (l : List Pt) (er : Int) (w : World) (e : Ending) (w' : World) : Prop :=
  ∃ v' ds, e = .returned (.tuple #[v', .int .i64 er]) ∧ rd ds = l ∧ Parts w' w'.heap.size v' ds ∧ Below w.heap.size w w' ∧ NewAt w.heap.size v' ds
end Go.Proofs.Ytjnclbhpdaonhaa
