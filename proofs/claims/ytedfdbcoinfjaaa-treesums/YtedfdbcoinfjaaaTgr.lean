import Derived.Test.YtedfdbcoinfjaaaTnu
import Derived.Laws.OwnMore
namespace Go.Proofs.Ytedfdbcoinfjaaa
open Go.RowKit

/-- THE NUMBERS BEHIND A SLICE, in a block below B that is not nb. -/
def Ints (w : World) (B nb : Nat) (v : Value) (xs : List Int) : Prop :=
  ∃ a c, v = .slice a xs.length c ∧ xs.length ≤ c ∧ xs.length ≤ 9223372036854775807 ∧
    (xs ≠ [] → ∃ b o, a = some ⟨b, o, none⟩ ∧ b < B ∧ b ≠ nb ∧ ∀ i x, xs[i]? = some x → w.cell? ⟨b, o + i, none⟩ = some (.int .i64 x))
theorem Ints.keep {w w' : World} {B nb : Nat} {v : Value} {xs : List Int} (h : Ints w B nb v xs) (hb : Below B w w') : Ints w' B nb v xs := by
  obtain ⟨a, c, hv, hc, hl, hx⟩ := h
  refine ⟨a, c, hv, hc, hl, fun hne => ?_⟩
  obtain ⟨b, o, ha, hB, hn, hcell⟩ := hx hne
  exact ⟨b, o, ha, hB, hn, fun i x hi => (hb.cell (p := ⟨b, o + i, none⟩) hB).trans (hcell i x hi)⟩
theorem Ints.mono {w : World} {B B' nb nb' : Nat} {v : Value} {xs : List Int} (h : Ints w B nb v xs) (hB : B ≤ B') (hn : nb' = nb ∨ B ≤ nb') : Ints w B' nb' v xs := by
  obtain ⟨a, c, hv, hc, hl, hx⟩ := h
  refine ⟨a, c, hv, hc, hl, fun hne => ?_⟩
  obtain ⟨b, o, ha, hb, hnb, hcell⟩ := hx hne
  exact ⟨b, o, ha, by omega, by rcases hn with h | h <;> omega, hcell⟩
theorem Ints.num {w : World} {B nb : Nat} {v : Value} {xs : List Int} (h : Ints w B nb v xs) : Num w B v xs := by
  obtain ⟨a, c, hv, hc, hl, hx⟩ := h
  refine ⟨a, c, hv, hc, hl, fun hne => ?_⟩
  obtain ⟨b, o, ha, hb, _, hcell⟩ := hx hne
  exact ⟨b, o, ha, hb, hcell⟩
theorem Ints.at2 {w w' : World} {nb : Nat} {v : Value} {xs : List Int} (h : Ints w w.heap.size nb v xs) (hb : Below w.heap.size w w') : Ints w' w'.heap.size nb v xs := (h.keep hb).mono hb.size (.inl rfl)
theorem ints_of_owns {w : World} {base nb : Nat} {v : Value} {xs : List Int} {n : Nat} (hn : n = xs.length) (hl : xs.length ≤ 9223372036854775807) (h : w.ownsRow base 3 1 v n (xs.map (.int .i64))) (hnb : nb < base) : Ints w w.heap.size nb v xs := by
  subst hn
  obtain ⟨_, ⟨hv, h0⟩ | ⟨g, cap, cur, hv, hb, hcur, hc, _, hsz, hx⟩⟩ := h
  · obtain rfl : xs = [] := by cases xs <;> simp_all
    exact ⟨none, 0, hv, Nat.le_refl _, hl, fun h => absurd rfl h⟩
  · refine ⟨_, cap, hv, hc, hl, fun _ => ⟨g, 0, rfl, (Array.getElem?_eq_some_iff.1 hcur).1, by omega, fun i x hi => ?_⟩⟩
    have hi2 : i < xs.length := (List.getElem?_eq_some_iff.1 hi).1
    have : cur[i]? = some (.int .i64 x) := by
      have h1 : (xs.map (Value.int .i64))[i]? = some (.int .i64 x) := by simp [hi]
      rw [← hx, List.getElem?_take_of_lt (by omega)] at h1
      simpa using h1
    simp [World.cell?, hcur, this]
theorem own_or2 {v : Value} {lo n : Nat} (h : ∀ g, v.ownBlock = some g → lo ≤ g ∧ g < n) (hn : lo < n) : ∃ m, lo ≤ m ∧ m < n ∧ ∀ g, v.ownBlock = some g → m = g := by
  cases e : v.ownBlock with
  | none => exact ⟨lo, Nat.le_refl _, hn, fun g e => by cases e⟩
  | some g => exact ⟨g, (h g e).1, (h g e).2, fun g' e => by simpa using e⟩
theorem info31 : (Try.prog.info? 31).map (fun i => (i.zero, i.size, i.bytes)) = some (some (.slice none 0 0), 1, 24) := by kernel_rfl
theorem info3 : (Try.prog.info? 3).map (fun i => (i.zero, i.size, i.bytes)) = some (some (.int .i64 0), 1, 8) := by kernel_rfl
/-- ROWS OF ONE's OWN THAT GROW: the numbers of each lie outside of the block that grows -/
def Rwr (w : World) (lo : Nat) (v : Value) (ts : List Rw) : Prop :=
  w.ownsRow lo 31 1 v ts.length (ts.map (·.1)) ∧ ∀ t ∈ ts, ∃ m, Ints w w.heap.size m t.1 t.2 ∧ ∀ g, v.ownBlock = some g → m = g
theorem Rwr.nil (w : World) (lo : Nat) : Rwr w lo (.slice none 0 0) [] := ⟨⟨rfl, .inl ⟨rfl, rfl⟩⟩, fun t ht => by cases ht⟩
theorem Rwr.keep {w w' : World} {lo : Nat} {v : Value} {ts : List Rw} (h : Rwr w lo v ts) (hb : Below w.heap.size w w') : Rwr w' lo v ts := by
  refine ⟨row_gb h.1 (gb_none hb) (by simp), fun t ht => ?_⟩
  obtain ⟨m, h1, h2⟩ := h.2 t ht
  exact ⟨m, h1.at2 hb, h2⟩
theorem Rwr.lt {w : World} {lo : Nat} {v : Value} {ts : List Rw} (h : Rwr w lo v ts) : ∀ g, v.ownBlock = some g → lo ≤ g ∧ g < w.heap.size := fun _ e => row_lt h.1 e
theorem Ints.grow {W w' : World} {B m m' : Nat} {s : Value} {xs : List Int} {row : Option Nat} (h : Ints W B m s xs) (hg : W.grownBy w' row) (hB : B ≤ W.heap.size) (hrow : ∀ g, row = some g → m = g) (hm : m' = m ∨ B ≤ m') : Ints w' w'.heap.size m' s xs := by
  obtain ⟨a, c, hv, hc, hl, hx⟩ := h
  refine ⟨a, c, hv, hc, hl, fun hne => ?_⟩
  obtain ⟨b, o, ha, hb, hn, hcell⟩ := hx hne
  have := hg.size
  refine ⟨b, o, ha, by omega, by rcases hm with h | h <;> omega, fun i x hi => ?_⟩
  refine hg.cell (hcell i x hi) fun e => hn ?_
  exact (hrow b e.symm).symm
theorem Rwr.app {W w' : World} {lo : Nat} {v v' s : Value} {ts : List Rw} {xs : List Int} {m : Nat} (h : Rwr W lo v ts) (hown : w'.ownsRow lo 31 1 v' (ts.length + 1) (ts.map (·.1) ++ [s])) (hg : W.grownBy w' v.ownBlock)
    (hat : v'.ownBlock = v.ownBlock ∨ v'.ownBlock = some W.heap.size) (hi : Ints W W.heap.size m s xs) (hm : ∀ g, v.ownBlock = some g → m = g) : Rwr w' lo v' (ts ++ [(s, xs)]) := by
  refine ⟨by simpa using hown, fun t ht => ?_⟩
  have key : ∀ (m : Nat) (s : Value) (xs : List Int), Ints W W.heap.size m s xs → (∀ g, v.ownBlock = some g → m = g) → ∃ m', Ints w' w'.heap.size m' s xs ∧ ∀ g, v'.ownBlock = some g → m' = g := by
    intro m s xs h1 h2
    rcases hat with hat | hat
    · exact ⟨m, h1.grow hg (Nat.le_refl _) h2 (.inl rfl), by rw [hat]; exact h2⟩
    · exact ⟨W.heap.size, h1.grow hg (Nat.le_refl _) h2 (.inr (Nat.le_refl _)), by rw [hat]; intro g e; simpa using e⟩
  rcases List.mem_append.1 ht with ht | ht
  · obtain ⟨m, h1, h2⟩ := h.2 t ht
    exact key m t.1 t.2 h1 h2
  · obtain rfl : t = (s, xs) := by simpa using ht
    exact key m s xs hi hm
theorem Rwr.rws {w : World} {lo : Nat} {v : Value} {ts : List Rw} (h : Rwr w lo v ts) (hl : ts.length ≤ 9223372036854775807) : Rws w w.heap.size v ts := by
  have hi : ∀ t ∈ ts, Num w w.heap.size t.1 t.2 := fun t ht => let ⟨m, h1, _⟩ := h.2 t ht; h1.num
  obtain ⟨_, ⟨hv, h0⟩ | ⟨g, cap, cur, hv, hb, hcur, hc, _, hsz, hx⟩⟩ := h.1
  · obtain rfl : ts = [] := List.length_eq_zero_iff.1 h0
    subst hv
    exact rws_nil w _
  · refine ⟨_, cap, hv, hc, hl, hi, fun _ => ⟨g, 0, rfl, (Array.getElem?_eq_some_iff.1 hcur).1, fun i t ht => ?_⟩⟩
    have hi2 : i < ts.length := (List.getElem?_eq_some_iff.1 ht).1
    have : cur[i]? = some t.1 := by
      have h1 : (ts.map (·.1))[i]? = some t.1 := by simp [ht]
      rw [← hx, List.getElem?_take_of_lt (by omega)] at h1
      simpa using h1
    simp [World.cell?, hcur, this]
theorem owns_one (w : World) (base : Nat) (x : Int) (hb : base ≤ w.heap.size) : (w.alloc (.cells #[.int .i64 x] 3)).ownsRow base 3 1 (.slice (some ⟨w.heap.size, 0, none⟩) 1 1) 1 [.int .i64 x] :=
  ⟨by simp, .inr ⟨w.heap.size, 1, #[.int .i64 x], rfl, hb, heap_alloc_new w _, Nat.le_refl _, by decide, by simp, by simp⟩⟩
end Go.Proofs.Ytedfdbcoinfjaaa
