import Derived.Test.YtjnclbhpdaonhaaEvf
namespace Go.Proofs.Ytjnclbhpdaonhaa
open Go.RowKit Go.Proofs.Ytjnclbhpdaonhaa.Ds

/-- a draw that is none -/
abbrev noD : Value := .agg #[.slice none 0 0, .int .i64 0]

/-- WHAT Feed ANSWERS -/
def FeedP (E : Nat) {S : Type} (St : World → S → Prop) (go : S → Nx) (us : S → Int) (s0 s : S) (b : Int) (w : World) (e : Ending) (w' : World) : Prop :=
  w.grownBy w' (some E) ∧
    ((e = .returned (.tuple #[noD, .bool false]) ∧ ∃ s', St w' s' ∧ us s' = us s + 1 ∧ ∀ l, go s (b :: l) = go s' l) ∨
     (∃ a c o, e = .returned (.tuple #[.agg #[.slice a (o : List Int).length c, .int .i64 (us s + 1)], .bool true]) ∧ (∀ m, m < w.heap.size → Ints w' w'.heap.size m (.slice a o.length c) o) ∧ St w' s0 ∧ ∀ l, go s (b :: l) = some (o, us s + 1, l)))

/-- WHAT Sure ANSWERS -/
def SureP (sur : Option (List Int)) (w : World) (e : Ending) (w' : World) : Prop :=
  Below w.heap.size w w' ∧ (sur = none → e = .returned (.tuple #[noD, .bool false])) ∧
    ∀ o, sur = some o → ∃ a c, e = .returned (.tuple #[.agg #[.slice a o.length c, .int .i64 0], .bool true]) ∧ ∀ m, m < w.heap.size → Ints w' w'.heap.size m (.slice a o.length c) o

/-- A DRAWER: below N it lies, at block E -/
structure Drw (N E fF fS : Nat) {S : Type} (St : World → S → Prop) (go : S → Nx) (us : S → Int) (s0 : S) (sur : Option (List Int)) : Prop where
  keep : ∀ {w w' s}, St w s → Below N w w' → N ≤ w.heap.size → St w' s
  lt : E < N
  nil : ∀ s, go s [] = none
  u0 : us s0 = 0
  feed : sur = none → ∀ w s b, St w s → N ≤ w.heap.size → 0 ≤ b ∧ b ≤ 1 → 0 ≤ us s ∧ us s ≤ 65536 → Calls Try.prog fF #[.pointer (some ⟨E, 0, none⟩), .int .i64 b] w (FeedP E St go us s0 s b w)
  sure : ∀ w s, St w s → N ≤ w.heap.size → Calls Try.prog fS #[.pointer (some ⟨E, 0, none⟩)] w (SureP sur w)

/-- its next draw -/
def nxT {S : Type} (go : S → Nx) (s0 : S) (sur : Option (List Int)) : Nx := fun l => match sur with
  | some o => some (o, 0, l)
  | none => go s0 l

/-- the bits, from one on -/
theorem Ints.drop {w : World} {B nb : Nat} {a : Option Addr} {c : Nat} {xs : List Int} (h : Ints w B nb (.slice a xs.length c) xs) (i : Nat) :
    ∀ b o, a = some ⟨b, o, none⟩ → Ints w B nb (.slice (some ⟨b, o + i, none⟩) (xs.length - i) (c - i)) (xs.drop i) := by
  intro b o ha
  obtain ⟨a', c', hv, hc, hl, hx⟩ := h
  simp only [Value.slice.injEq] at hv
  obtain ⟨rfl, _, rfl⟩ := hv
  refine ⟨some ⟨b, o + i, none⟩, c - i, by simp, by simp; omega, by simp; omega, fun hne => ?_⟩
  have hne' : xs ≠ [] := by rintro rfl; simp at hne
  obtain ⟨b', o', ha', hb, hn, hcell⟩ := hx hne'
  rw [ha] at ha'
  simp only [Option.some.injEq, Addr.mk.injEq] at ha'
  obtain ⟨rfl, rfl, _⟩ := ha'
  refine ⟨b, o + i, rfl, hb, hn, fun j x hj => ?_⟩
  rw [List.getElem?_drop] at hj
  have := hcell (i + j) x hj
  rwa [← Nat.add_assoc] at this

theorem Ints.drop2 {w : World} {B nb b o c : Nat} {xs : List Int} (h : Ints w B nb (.slice (some ⟨b, o, none⟩) xs.length c) xs) (i : Nat) (hi : i ≤ xs.length) :
    Ints w B nb (.slice (if c = i then some ⟨b, o, none⟩ else some ⟨b, o + i, none⟩) (xs.drop i).length (c - i)) (xs.drop i) := by
  by_cases e : c = i
  · have hc : xs.length ≤ c := by
      obtain ⟨a', c', hv, hc, _⟩ := h
      simp only [Value.slice.injEq] at hv
      omega
    rw [if_pos e, List.drop_eq_nil_of_le (by omega)]
    exact ⟨_, _, rfl, by simp, by simp, fun h => absurd rfl h⟩
  · rw [if_neg e, List.length_drop]
    exact h.drop i b o rfl

/-- what is not written stays -/
theorem Ints.gb {w w' : World} {B E : Nat} {v : Value} {xs : List Int} (h : Ints w B E v xs) (hg : w.grownBy w' (some E)) : Ints w' B E v xs := by
  obtain ⟨a, c, hv, hc, hl, hx⟩ := h
  refine ⟨a, c, hv, hc, hl, fun hne => ?_⟩
  obtain ⟨b, o, ha, hb, hn, hcell⟩ := hx hne
  exact ⟨b, o, ha, hb, hn, fun i x hi => hg.cell (hcell i x hi) (by simpa using hn)⟩

theorem bad_get {l : List Int} (h : badB l = false) {i : Nat} {b : Int} (hb : l[i]? = some b) : 0 ≤ b ∧ b ≤ 1 := by
  have := (List.any_eq_false.1 h) b (List.mem_of_getElem? hb)
  simp at this
  omega
theorem bad_drop {l : List Int} (h : badB l = false) (i : Nat) : badB (l.drop i) = false :=
  List.any_eq_false.2 fun b hb => (List.any_eq_false.1 h) b (List.mem_of_mem_drop hb)

theorem Rv.gb {w w' : World} {R E : Nat} {s : Value} {k : Int} (h : Rv w R s k) (hg : w.grownBy w' (some E)) (hne : R ≠ E) : Rv w' R s k :=
  have hn : some R ≠ some E := by simpa using hne
  ⟨hg.cell (a := ⟨R, 0, none⟩) h.c0 hn, hg.cell (a := ⟨R, 1, none⟩) h.c1 hn, (World.frozen?_of_block (w := w) (a := ⟨R, 0, none⟩) (hg.block R h.lt hn)).trans h.f0, (World.frozen?_of_block (w := w) (a := ⟨R, 1, none⟩) (hg.block R h.lt hn)).trans h.f1, Nat.lt_of_lt_of_le h.lt hg.size⟩
/-- what was answered is laid there -/
theorem Rv.put {w : World} {R : Nat} {s : Value} {k : Int} (h : Rv w R s k) (s' : Value) (k' : Int) : Rv ((w.setCell ⟨R, 0, none⟩ s').setCell ⟨R, 1, none⟩ (.int .i64 k')) R s' k' :=
  ⟨by rw [sc_other (by simp)]; exact sc_same h.c0, by refine sc_same (u := .int .i64 k) ?_; rw [sc_other (by simp)]; exact h.c1, by rw [sc_frozen, sc_frozen]; exact h.f0, by rw [sc_frozen, sc_frozen]; exact h.f1, by simpa using h.lt⟩

/-- WHAT next ANSWERS -/
def NextP (B E : Nat) {S : Type} (St : World → S → Prop) (nx : Nx) (s0 : S) (bits : List Int) (w : World) (e : Ending) (w' : World) : Prop :=
  w.grownBy w' (some E) ∧
    ((nx bits = none ∧ e = .returned (.tuple #[noD, .slice none 0 0, .bool false])) ∨
     (∃ a c o k a' c' j, nx bits = some (o, k, bits.drop j) ∧ e = .returned (.tuple #[.agg #[.slice a (o : List Int).length c, .int .i64 k], .slice a' (bits.drop j).length c', .bool true]) ∧
       (∀ m, m < w.heap.size → Ints w' w'.heap.size m (.slice a o.length c) o) ∧ Ints w' B E (.slice a' (bits.drop j).length c') (bits.drop j) ∧ St w' s0))
end Go.Proofs.Ytjnclbhpdaonhaa
