import Derived.Test.YtlndlpjadajelaaGreatQt29
import Derived.Maps.AppendAt
import Derived.Laws.OwnMore
import Derived.Lib.SliceRun
import Derived.Deep.DeepCutAuto
import Derived.Deep.AppendLies
import Derived.Deep.RegionLaw
namespace Go.Proofs.YtlndlpjadajelaaGreat.K
open Go.RowKit Go.Proofs.YtlndlpjadajelaaGreat.K.Ds

theorem frozen_zero {w : World} {g j : Nat} {cur : Array Value} {e : TypeId} (h : w.heap[g]? = some (.cells cur e (0, 0))) : w.frozen? ⟨g, j, none⟩ = false := by
  simp [World.frozen?, h]
theorem owns_below {w w' : World} {base : Nat} {e : TypeId} {size : Nat} {v : Value} {n : Nat} {xs : List Value} (h : w.ownsRow base e size v n xs) (hb : Below w.heap.size w w') : w'.ownsRow base e size v n xs := by
  obtain ⟨h1, h2⟩ := h
  refine ⟨h1, ?_⟩
  rcases h2 with h2 | ⟨g, cap, cur, hv, hg, hcur, h3⟩
  · exact .inl h2
  · exact .inr ⟨g, cap, cur, hv, hg, by rw [hb.block g (Array.getElem?_eq_some_iff.1 hcur).1]; exact hcur, h3⟩
theorem owns_block {w : World} {base : Nat} {e : TypeId} {size : Nat} {v : Value} {n : Nat} {xs : List Value} (h : w.ownsRow base e size v n xs) : ∀ k, v.ownBlock = some k → base ≤ k := by
  intro k hk
  obtain ⟨_, ⟨rfl, _⟩ | ⟨g, cap, cur, rfl, hg, _⟩⟩ := h
  · simp [Value.ownBlock] at hk
  · simp [Value.ownBlock] at hk; omega
theorem owns_slice {w : World} {base : Nat} {e : TypeId} {size : Nat} {v : Value} {n : Nat} {xs : List Value} (h : w.ownsRow base e size v n xs) : ∃ a c, v = .slice a n c := by
  obtain ⟨_, ⟨rfl, rfl⟩ | ⟨g, cap, cur, rfl, _⟩⟩ := h
  · exact ⟨_, _, rfl⟩
  · exact ⟨_, _, rfl⟩
theorem owns_some {w : World} {base : Nat} {e : TypeId} {size : Nat} {v : Value} {n : Nat} {xs : List Value} (h : w.ownsRow base e size v n xs) (hne : v ≠ .slice none 0 0) : ∃ g c, v = .slice (some ⟨g, 0, none⟩) n c ∧ base ≤ g ∧ g < w.heap.size := by
  obtain ⟨_, ⟨rfl, rfl⟩ | ⟨g, cap, cur, rfl, hb, hcur, _⟩⟩ := h
  · exact absurd rfl hne
  · exact ⟨g, cap, rfl, hb, (Array.getElem?_eq_some_iff.1 hcur).1⟩
theorem ints_of_owns {w : World} {base nb : Nat} {v : Value} {xs : List Int} {n : Nat} (hn : n = xs.length) (hl : xs.length ≤ 9223372036854775807) (h : w.ownsRow base 3 1 v n (xs.map (.int .i64))) (hnb : nb < base) : Ints w w.heap.size nb v xs := by
  subst hn
  obtain ⟨_, ⟨hv, h0⟩ | ⟨g, cap, cur, hv, hb, hcur, hc, _, hsz, hx⟩⟩ := h
  · obtain rfl : xs = [] := by cases xs <;> simp_all
    exact ⟨none, 0, hv, Nat.le_refl _, hl, fun h => absurd rfl h⟩
  · refine ⟨_, cap, hv, hc, hl, fun _ => ⟨g, 0, rfl, (Array.getElem?_eq_some_iff.1 hcur).1, by omega, fun i x hi => ?_⟩⟩
    have hi2 : i < xs.length := (List.getElem?_eq_some_iff.1 hi).1
    have : cur[i]? = some (.int .i64 x) := by
      have h1 : (xs.map (Value.int .i64))[i]? = some (.int .i64 x) := by simp [hi]
      rw [← hx, List.getElem?_take_of_lt (by omega)] at h1
      simpa using h1
    simp [World.cell?, hcur, this]
theorem own_or2 {v : Value} {lo n : Nat} (h : ∀ g, v.ownBlock = some g → lo ≤ g ∧ g < n) (hn : lo < n) : ∃ m, lo ≤ m ∧ m < n ∧ ∀ g, v.ownBlock = some g → m = g := by
  cases e : v.ownBlock with
  | none => exact ⟨lo, Nat.le_refl _, hn, fun g e => by cases e⟩
  | some g => exact ⟨g, (h g e).1, (h g e).2, fun g' e => by simpa using e⟩

theorem info26 : (Tryz.prog.info? 65).map (fun i => (i.zero, i.size, i.bytes)) = some (some (.slice none 0 0), 1, 24) := by kernel_rfl
theorem info47 : (Tryz.prog.info? 74).map (fun i => (i.zero, i.size, i.bytes)) = some (some (.agg #[.string ByteArray.empty, .int .i64 0]), 2, 24) := by kernel_rfl
theorem info25 : (Tryz.prog.info? 27).map (fun i => (i.zero, i.size, i.bytes)) = some (some (.agg #[.slice none 0 0, .slice none 0 0]), 2, 48) := by kernel_rfl

/-- ROWS OF ONE's OWN THAT GROW: the numbers of each lie outside of the block that grows -/
def Rwr (w : World) (lo : Nat) (v : Value) (ts : List Rw) : Prop :=
  w.ownsRow lo 65 1 v ts.length (ts.map (·.1)) ∧ ∀ t ∈ ts, ∃ m, Ints w w.heap.size m t.1 t.2 ∧ ∀ g, v.ownBlock = some g → m = g
theorem Rwr.nil (w : World) (lo : Nat) : Rwr w lo (.slice none 0 0) [] := ⟨⟨rfl, .inl ⟨rfl, rfl⟩⟩, fun t ht => by cases ht⟩
theorem Rwr.keep {w w' : World} {lo : Nat} {v : Value} {ts : List Rw} (h : Rwr w lo v ts) (hb : Below w.heap.size w w') : Rwr w' lo v ts :=
  ⟨owns_below h.1 hb, fun t ht => let ⟨m, h1, h2⟩ := h.2 t ht; ⟨m, h1.at2 hb, h2⟩⟩
theorem Rwr.mono {w : World} {lo lo' : Nat} {v : Value} {ts : List Rw} (h : Rwr w lo v ts) (hl : lo' ≤ lo) : Rwr w lo' v ts := by
  refine ⟨?_, h.2⟩
  obtain ⟨h1, h2 | ⟨g, cap, cur, hv, hg, h3⟩⟩ := h.1
  · exact ⟨h1, .inl h2⟩
  · exact ⟨h1, .inr ⟨g, cap, cur, hv, by omega, h3⟩⟩
theorem Rwr.slice {w : World} {lo : Nat} {v : Value} {ts : List Rw} (h : Rwr w lo v ts) : ∃ a c, v = .slice a ts.length c := owns_slice h.1
theorem Rwr.lt {w : World} {lo : Nat} {v : Value} {ts : List Rw} (h : Rwr w lo v ts) : ∀ g, v.ownBlock = some g → lo ≤ g ∧ g < w.heap.size := h.1.lt
theorem Ints.grow {W w' : World} {B m m' : Nat} {s : Value} {xs : List Int} {row : Option Nat} (h : Ints W B m s xs) (hg : W.grownBy w' row) (hB : B ≤ W.heap.size) (hrow : ∀ g, row = some g → m = g) (hm : m' = m ∨ B ≤ m') : Ints w' w'.heap.size m' s xs := by
  obtain ⟨a, c, hv, hc, hl, hx⟩ := h
  refine ⟨a, c, hv, hc, hl, fun hne => ?_⟩
  obtain ⟨b, o, ha, hb, hn, hcell⟩ := hx hne
  have := hg.size
  refine ⟨b, o, ha, by omega, by rcases hm with h | h <;> omega, fun i x hi => ?_⟩
  refine hg.cell (hcell i x hi) fun e => hn ?_
  exact (hrow b e.symm).symm
theorem Rwr.app {W w' : World} {lo : Nat} {v v' s : Value} {ts : List Rw} {xs : List Int} {m : Nat} (h : Rwr W lo v ts) (hown : w'.ownsRow lo 65 1 v' (ts.length + 1) (ts.map (·.1) ++ [s])) (hg : W.grownBy w' v.ownBlock)
    (hat : v'.ownBlock = v.ownBlock ∨ v'.ownBlock = some W.heap.size) (hi : Ints W W.heap.size m s xs) (hm : ∀ g, v.ownBlock = some g → m = g) : Rwr w' lo v' (ts ++ [(s, xs)]) := by
  refine ⟨by simpa using hown, fun t ht => ?_⟩
  have key : ∀ (m : Nat) (s : Value) (xs : List Int), Ints W W.heap.size m s xs → (∀ g, v.ownBlock = some g → m = g) → ∃ m', Ints w' w'.heap.size m' s xs ∧ ∀ g, v'.ownBlock = some g → m' = g := by
    intro m s xs h1 h2
    rcases hat with hat | hat
    · exact ⟨m, h1.grow hg (Nat.le_refl _) h2 (.inl rfl), by rw [hat]; exact h2⟩
    · exact ⟨W.heap.size, h1.grow hg (Nat.le_refl _) h2 (.inr (Nat.le_refl _)), by rw [hat]; intro g e; simpa using e⟩
  rcases List.mem_append.1 ht with ht | ht
  · obtain ⟨m, h1, h2⟩ := h.2 t ht
    exact key m t.1 t.2 h1 h2
  · obtain rfl : t = (s, xs) := by simpa using ht
    exact key m s xs hi hm
theorem rws_nil (w : World) (B : Nat) : Rws w B (.slice none 0 0) [] := ⟨none, 0, rfl, Nat.le_refl _, by simp, by simp, fun h => absurd rfl h⟩
theorem Rwr.rws {w : World} {lo : Nat} {v : Value} {ts : List Rw} (h : Rwr w lo v ts) (hl : ts.length ≤ 9223372036854775807) : Rws w w.heap.size v ts := by
  have hi : ∀ t ∈ ts, Ints w w.heap.size w.heap.size t.1 t.2 := fun t ht => let ⟨m, h1, _⟩ := h.2 t ht; h1.mono (Nat.le_refl _) (.inr (Nat.le_refl _))
  obtain ⟨_, ⟨hv, h0⟩ | ⟨g, cap, cur, hv, hb, hcur, hc, _, hsz, hx⟩⟩ := h.1
  · obtain rfl : ts = [] := List.length_eq_zero_iff.1 h0
    subst hv
    exact rws_nil w _
  · refine ⟨_, cap, hv, hc, hl, hi, fun _ => ⟨g, 0, rfl, (Array.getElem?_eq_some_iff.1 hcur).1, fun i t ht => ?_⟩⟩
    have hi2 : i < ts.length := (List.getElem?_eq_some_iff.1 ht).1
    have : cur[i]? = some t.1 := by
      have h1 : (ts.map (·.1))[i]? = some t.1 := by simp [ht]
      rw [← hx, List.getElem?_take_of_lt (by omega)] at h1
      simpa using h1
    simp [World.cell?, hcur, this]
/-- each row's value has a place, from lo on -/
def Som (lo : Nat) (ts : List Rw) : Prop := ∀ t ∈ ts, ∃ b o n c, t.1 = .slice (some ⟨b, o, none⟩) n c ∧ lo ≤ b
theorem Som.nil (lo : Nat) : Som lo [] := fun t ht => by cases ht
theorem Som.snoc {lo : Nat} {ts : List Rw} {b o n c : Nat} {xs : List Int} (h : Som lo ts) (hb : lo ≤ b) : Som lo (ts ++ [(.slice (some ⟨b, o, none⟩) n c, xs)]) := by
  intro t ht
  rcases List.mem_append.1 ht with ht | ht
  · exact h t ht
  · obtain rfl := List.mem_singleton.1 ht; exact ⟨b, o, n, c, rfl, hb⟩
theorem Som.add {lo : Nat} {ts : List Rw} {t : Rw} (h : Som lo ts) (hb : ∃ b o n c, t.1 = .slice (some ⟨b, o, none⟩) n c ∧ lo ≤ b) : Som lo (ts ++ [t]) := by
  intro u ht
  rcases List.mem_append.1 ht with ht | ht
  · exact h u ht
  · obtain rfl := List.mem_singleton.1 ht; exact hb
theorem Som.mono {lo lo' : Nat} {ts : List Rw} (h : Som lo ts) (hl : lo' ≤ lo) : Som lo' ts := fun t ht => let ⟨b, o, n, c, e, hb⟩ := h t ht; ⟨b, o, n, c, e, Nat.le_trans hl hb⟩
/-- so its numbers lie nowhere below lo -/
theorem Ints.not {w : World} {B nb m lo : Nat} {v : Value} {xs : List Int} (h : Ints w B nb v xs) (hs : ∃ b o n c, v = .slice (some ⟨b, o, none⟩) n c ∧ lo ≤ b) (hm : m < lo) : Ints w B m v xs := by
  obtain ⟨a, c, hv, hc, hl, hx⟩ := h
  obtain ⟨b, o, n, c2, hv2, hb⟩ := hs
  refine ⟨a, c, hv, hc, hl, fun hne => ?_⟩
  obtain ⟨b', o', ha, hB, _, hcell⟩ := hx hne
  refine ⟨b', o', ha, hB, ?_, hcell⟩
  rw [hv, ha] at hv2
  simp only [Value.slice.injEq, Option.some.injEq, Addr.mk.injEq] at hv2
  have := hv2.1.1
  omega

/-- the cells of columns -/
def flatC (l : List Col) : List Value := l.flatMap fun c => [.string c.1, .int .i64 c.2]
theorem flatC_len (l : List Col) : (flatC l).length = l.length * 2 := by
  induction l with
  | nil => rfl
  | cons t l ih => simp [flatC] at *; omega
theorem flatC_get (l : List Col) (i : Nat) : (flatC l)[i * 2]? = l[i]?.map (fun c => .string c.1) ∧ (flatC l)[i * 2 + 1]? = l[i]?.map fun c => .int .i64 c.2 := by
  induction l generalizing i with
  | nil => simp [flatC]
  | cons t l ih =>
    cases i with
    | zero => simp [flatC]
    | succ i =>
      have h := ih i
      have e : flatC (t :: l) = .string t.1 :: .int .i64 t.2 :: flatC l := rfl
      rw [e, show (i + 1) * 2 = i * 2 + 1 + 1 by omega, show i * 2 + 1 + 1 + 1 = (i * 2 + 1) + 1 + 1 by omega]
      simpa using h
theorem flatC_cells {w : World} {b o : Nat} {l : List Col} (h : ∀ i x, l[i]? = some x → w.cell? ⟨b, o + i * 2, none⟩ = some (.string x.1) ∧ w.cell? ⟨b, o + i * 2 + 1, none⟩ = some (.int .i64 x.2)) : ∀ j u, (flatC l)[j]? = some u → w.cell? ⟨b, o + j, none⟩ = some u := by
  intro j u hj
  have hlt : j < l.length * 2 := by rw [← flatC_len]; exact (List.getElem?_eq_some_iff.1 hj).1
  obtain ⟨t, ht⟩ := get_lt (l := l) (i := j / 2) (by omega)
  have hg := flatC_get l (j / 2)
  rcases Nat.mod_two_eq_zero_or_one j with hm | hm
  · have e : j = j / 2 * 2 := by omega
    rw [e] at hj ⊢
    rw [hg.1, ht] at hj
    rw [(h _ t ht).1]; simpa using hj
  · have e : j = j / 2 * 2 + 1 := by omega
    rw [e] at hj ⊢
    rw [hg.2, ht] at hj
    rw [← Nat.add_assoc, (h _ t ht).2]; simpa using hj

end Go.Proofs.YtlndlpjadajelaaGreat.K

namespace Go.Proofs.YtlndlpjadajelaaGreat.K
open Go.RowKit Go.Proofs.YtlndlpjadajelaaGreat.K.Ds

theorem gb_refl (w : World) (r : Option Nat) : w.grownBy w r := World.grownBy.refl w r
theorem gb_trans {a b c : World} {r : Option Nat} (h : a.grownBy b r) (k : b.grownBy c r) : a.grownBy c r :=
  ⟨k.os.trans h.os, k.tape.trans h.tape, k.output.trans h.output, Nat.le_trans h.size k.size, fun i hi hr => (k.block i (Nat.lt_of_lt_of_le hi h.size) hr).trans (h.block i hi hr)⟩
theorem gb_alloc {a b : World} {r : Option Nat} (h : a.grownBy b r) (o : Obj) : a.grownBy (b.alloc o) r := gb_trans h (World.grownBy_alloc b o r)
theorem gb_drew {a b : World} {r : Option Nat} (h : a.grownBy b r) : a.grownBy b.drew r := ⟨h.os, h.tape, h.output, h.size, h.block⟩
theorem gb_set {a b : World} {E : Nat} (h : a.grownBy b (some E)) (k : Nat) (u : Value) : a.grownBy (b.setCell ⟨E, k, none⟩ u) (some E) :=
  gb_trans h ⟨rfl, rfl, rfl, by simp [World.setCell], fun i _ hr => Below.heap_setCell _ _ _ _ (by intro e; exact hr (by rw [e]))⟩
theorem gb_below {a b : World} {E : Nat} (h : Below a.heap.size a b) : a.grownBy b (some E) := ⟨h.os, h.tape, h.output, h.size, fun k hk _ => h.block k hk⟩
theorem below_gb {a b : World} {E B : Nat} (h : a.grownBy b (some E)) (hB : B ≤ E) (hE : B ≤ a.heap.size) : Below B a b := ⟨h.os, h.tape, h.output, h.size, fun k hk => h.block k (by omega) (by simp; omega)⟩
/-- what grows a row from a's end on, or makes memory, leaves all of a but E as it was -/
theorem gb_grow {a b c : World} {E : Nat} {row : Option Nat} (h : a.grownBy b (some E)) (k : b.grownBy c row) (hr : ∀ g, row = some g → a.heap.size ≤ g) : a.grownBy c (some E) :=
  ⟨k.os.trans h.os, k.tape.trans h.tape, k.output.trans h.output, Nat.le_trans h.size k.size, fun i hi hne => (k.block i (Nat.lt_of_lt_of_le hi h.size) (fun e => by have := hr i e.symm; omega)).trans (h.block i hi hne)⟩

/-- a block with two cells -/
structure TwoB (w : World) (R : Nat) (x y : Value) : Prop where
  c0 : w.cell? ⟨R, 0, none⟩ = some x
  c1 : w.cell? ⟨R, 1, none⟩ = some y
  f0 : w.frozen? ⟨R, 0, none⟩ = false
  f1 : w.frozen? ⟨R, 1, none⟩ = false
  lt : R < w.heap.size
theorem TwoB.below {w w' : World} {R : Nat} {x y : Value} (h : TwoB w R x y) (b : Below w.heap.size w w') : TwoB w' R x y :=
  ⟨(b.cell (p := ⟨R, 0, none⟩) h.lt).trans h.c0, (b.cell (p := ⟨R, 1, none⟩) h.lt).trans h.c1, (b.frozen (p := ⟨R, 0, none⟩) h.lt).trans h.f0, (b.frozen (p := ⟨R, 1, none⟩) h.lt).trans h.f1, Nat.lt_of_lt_of_le h.lt b.size⟩
theorem TwoB.gb {w w' : World} {R : Nat} {row : Option Nat} {x y : Value} (h : TwoB w R x y) (b : w.grownBy w' row) (hne : row ≠ some R) : TwoB w' R x y := by
  have hk : w'.heap[R]? = w.heap[R]? := b.block R h.lt (fun e => hne e.symm)
  exact ⟨(World.cell?_of_block (w := w) (a := ⟨R, 0, none⟩) hk).trans h.c0, (World.cell?_of_block (w := w) (a := ⟨R, 1, none⟩) hk).trans h.c1, (World.frozen?_of_block (w := w) (a := ⟨R, 0, none⟩) hk).trans h.f0, (World.frozen?_of_block (w := w) (a := ⟨R, 1, none⟩) hk).trans h.f1, Nat.lt_of_lt_of_le h.lt b.size⟩
theorem TwoB.new (w : World) (x y : Value) (t : TypeId) (N : Nat) (hN : N = w.heap.size) : TwoB (w.alloc (.cells #[x, y] t)) N x y :=
  ⟨nc _ _ 0 _ hN rfl, nc _ _ 1 _ hN rfl, nf _ _ 0 hN, nf _ _ 1 hN, by simp; omega⟩
theorem TwoB.set1 {w : World} {R : Nat} {x y : Value} (h : TwoB w R x y) (u : Value) : TwoB (w.setCell ⟨R, 1, none⟩ u) R x u :=
  ⟨(sc_other (by simp)).trans h.c0, sc_same h.c1, sc_frozen.trans h.f0, sc_frozen.trans h.f1, by simpa using h.lt⟩
theorem TwoB.put {w : World} {R : Nat} {x y : Value} (h : TwoB w R x y) (u v : Value) : TwoB ((w.setCell ⟨R, 0, none⟩ u).setCell ⟨R, 1, none⟩ v) R u v := by
  have h0 : TwoB (w.setCell ⟨R, 0, none⟩ u) R u y := ⟨sc_same h.c0, (sc_other (by simp)).trans h.c1, sc_frozen.trans h.f0, sc_frozen.trans h.f1, by simpa using h.lt⟩
  exact h0.set1 v
theorem TwoB.other {w : World} {R : Nat} {x y : Value} (h : TwoB w R x y) {p : Addr} (hp : p.block ≠ R) (u : Value) : TwoB (w.setCell p u) R x y :=
  ⟨(sc_other (by rintro rfl; exact hp rfl)).trans h.c0, (sc_other (by rintro rfl; exact hp rfl)).trans h.c1, sc_frozen.trans h.f0, sc_frozen.trans h.f1, by simpa using h.lt⟩

theorem Ints.setb {w : World} {B m b k : Nat} {v : Value} {xs : List Int} (h : Ints w B m v xs) (hs : ∃ b' o n c, v = .slice (some ⟨b', o, none⟩) n c ∧ b < b') (u : Value) : Ints (w.setCell ⟨b, k, none⟩ u) B m v xs := by
  obtain ⟨a, c, hv, hc, hl, hx⟩ := h
  obtain ⟨b1, o1, n1, c1, hv1, hb1⟩ := hs
  refine ⟨a, c, hv, hc, hl, fun hne => ?_⟩
  obtain ⟨b', o', ha, hB, hn, hcell⟩ := hx hne
  refine ⟨b', o', ha, hB, hn, fun i x hi => ?_⟩
  rw [sc_other]
  · exact hcell i x hi
  · rw [hv, ha] at hv1
    simp only [Value.slice.injEq, Option.some.injEq, Addr.mk.injEq] at hv1
    intro e
    simp only [Addr.mk.injEq] at e
    have := hv1.1.1
    omega
/-- a store into a block below -/
theorem Rwr.set {w : World} {lo T k : Nat} {v : Value} {ts : List Rw} (h : Rwr w lo v ts) (hT : T < lo) (hs : Som (T + 1) ts) (u : Value) : Rwr (w.setCell ⟨T, k, none⟩ u) lo v ts := by
  refine ⟨ownsRow_setCell_below h.1 (a := ⟨T, k, none⟩) hT u, fun t ht => ?_⟩
  obtain ⟨m, h1, h2⟩ := h.2 t ht
  obtain ⟨b, o, n, c, e, hb⟩ := hs t ht
  exact ⟨m, by have := h1.setb (b := T) (k := k) ⟨b, o, n, c, e, hb⟩ u; simpa [World.setCell] using this, h2⟩

/-- what FromCells answers -/
def FromP (lc : List Col) (rs : List (List Int)) (er : Int) (w : World) (e : Ending) (w' : World) : Prop :=
  ∃ cv rv ts, e = .returned (.tuple #[.agg #[cv, rv], .int .i64 er]) ∧ Cols w' w'.heap.size cv lc ∧ Rws w' w'.heap.size rv ts ∧ rr ts = rs ∧ Below w.heap.size w w'
theorem cols_nil (w : World) (B : Nat) : Cols w B (.slice none 0 0) [] := ⟨none, 0, rfl, Nat.le_refl _, by simp, by simp, fun h => absurd rfl h⟩
theorem froE_no {l : List Col} {xs : List Int} {er : Int} (h : froE l xs = er) (he : er ≠ 0) : froC l xs = [] ∧ froT l xs = [] := by
  rw [froC, froT, h, if_neg he, if_neg he]; exact ⟨rfl, rfl⟩

end Go.Proofs.YtlndlpjadajelaaGreat.K

namespace Go.Proofs.YtlndlpjadajelaaGreat.K
open Go.RowKit Go.Proofs.YtlndlpjadajelaaGreat.K.Ds

/-- where a slice lies, if it lies anywhere -/
def Adr (P : Nat → Prop) (v : Value) : Prop := ∀ b o n c, v = .slice (some ⟨b, o, none⟩) n c → P b
theorem adr_nil (P : Nat → Prop) {n c : Nat} : Adr P (.slice none n c) := fun b o n c e => by simp at e
theorem Adr.imp {P P' : Nat → Prop} {v : Value} (h : Adr P v) (k : ∀ b, P b → P' b) : Adr P' v := fun b o n c e => k b (h b o n c e)
theorem adr_at {P : Nat → Prop} {b o n c : Nat} (h : P b) : Adr P (.slice (some ⟨b, o, none⟩) n c) := fun b' o' n' c' e => by
  simp only [Value.slice.injEq, Option.some.injEq, Addr.mk.injEq] at e
  rw [← e.1.1]; exact h
theorem Ints.gb {w w' : World} {B nb : Nat} {v : Value} {xs : List Int} {row : Option Nat} (h : Ints w B nb v xs) (hg : w.grownBy w' row) (ha : Adr (fun b => row ≠ some b) v) : Ints w' B nb v xs := by
  obtain ⟨a, c, hv, hc, hl, hx⟩ := h
  refine ⟨a, c, hv, hc, hl, fun hne => ?_⟩
  obtain ⟨b, o, e, hb, hn, hcell⟩ := hx hne
  refine ⟨b, o, e, hb, hn, fun i x hi => hg.cell (hcell i x hi) fun e2 => ?_⟩
  exact ha b o _ _ (by rw [hv, e]) e2.symm
theorem Cols.gb {w w' : World} {B : Nat} {v : Value} {l : List Col} {row : Option Nat} (h : Cols w B v l) (hg : w.grownBy w' row) (ha : Adr (fun b => row ≠ some b) v) : Cols w' B v l := by
  obtain ⟨a, c, hv, hc, hl, hn, hx⟩ := h
  refine ⟨a, c, hv, hc, hl, hn, fun hne => ?_⟩
  obtain ⟨b, o, e, hb, hcell⟩ := hx hne
  have hne2 : row ≠ some b := ha b o _ _ (by rw [hv, e])
  exact ⟨b, o, e, hb, fun i x hi => ⟨hg.cell (hcell i x hi).1 (fun e2 => hne2 e2.symm), hg.cell (hcell i x hi).2 (fun e2 => hne2 e2.symm)⟩⟩
/-- where rows lie -/
def AdrR (P : Nat → Prop) (v : Value) (ts : List Rw) : Prop := Adr P v ∧ ∀ t ∈ ts, Adr P t.1
theorem AdrR.imp {P P' : Nat → Prop} {v : Value} {ts : List Rw} (h : AdrR P v ts) (k : ∀ b, P b → P' b) : AdrR P' v ts := ⟨h.1.imp k, fun t ht => (h.2 t ht).imp k⟩
theorem Rws.gb {w w' : World} {B : Nat} {v : Value} {ts : List Rw} {row : Option Nat} (h : Rws w B v ts) (hg : w.grownBy w' row) (ha : AdrR (fun b => row ≠ some b) v ts) : Rws w' B v ts := by
  obtain ⟨a, c, hv, hc, hl, hi, hx⟩ := h
  refine ⟨a, c, hv, hc, hl, fun t ht => (hi t ht).gb hg (ha.2 t ht), fun hne => ?_⟩
  obtain ⟨b, o, e, hb, hcell⟩ := hx hne
  have hne2 : row ≠ some b := ha.1 b o _ _ (by rw [hv, e])
  exact ⟨b, o, e, hb, fun i t ht => hg.cell (hcell i t ht) (fun e2 => hne2 e2.symm)⟩
theorem Rwr.adr {w : World} {lo : Nat} {v : Value} {ts : List Rw} (h : Rwr w lo v ts) (hs : Som lo ts) : AdrR (fun b => lo ≤ b) v ts :=
  ⟨fun b o n c e => owns_block h.1 b (by rw [e]; obtain ⟨g, c', e', _⟩ := owns_some h.1 (by rw [e]; simp); rw [e] at e'; simp at e'; rw [e'.1.2]; rfl), fun t ht => by
    obtain ⟨b, o, n, c, e, hb⟩ := hs t ht
    rw [e]; exact adr_at hb⟩

end Go.Proofs.YtlndlpjadajelaaGreat.K

namespace Go.Proofs.YtlndlpjadajelaaGreat.K
open Go.RowKit Go.Proofs.YtlndlpjadajelaaGreat.K.Ds

set_option maxHeartbeats 1000000 in
set_option maxRecDepth 100000 in
theorem cloneN_any (B nb : Nat) (v : Value) (xs : List Int) (w : World) (hB : B ≤ w.heap.size) (hx : Ints w B nb v xs) (hsm : xs.length ≤ 1073741824) :
    Calls Tryz.prog 140 #[v] w fun e w' => ∃ v', e = .returned v' ∧ ((v' = .slice none 0 0 ∧ xs = []) ∨ ∃ g c, v' = .slice (some ⟨g, 0, none⟩) xs.length c ∧ w.heap.size ≤ g ∧ xs.length ≤ c ∧ RowI w' g xs) ∧ Below w.heap.size w w' := by
  obtain ⟨a, c, rfl, hc, hl, hxx⟩ := hx
  have q22 : ∀ (w : World) (a : Option Addr) (n c n' c' : Nat), (binOp .eql 65 (.slice a n c) (.slice none n' c')).run Tryz.prog w = .ok (.bool a.isNone) w := fun w a n c n' c' => Lib.run_eql_slice_nil w _ _ a n c n' c' Tryz.underlying65
  cases a with
  | none =>
    obtain rfl : xs = [] := by
      cases xs with
      | nil => rfl
      | cons x l => obtain ⟨b, o, h, _⟩ := hxx (by simp); cases h
    clear hxx
    go_enter Tryz.func140, Tryz.ntmps140
    go_wp2
    go_ret
    exact ⟨_, rfl, .inl ⟨rfl, trivial⟩, Below.refl _ _⟩
  | some ad =>
    have A : Hid (∀ j u, (xs.map (Value.int .i64))[j]? = some u → ∀ o, (w.alloc o).cell? (ad.add j) = some u) := by
      intro j u hj o
      have hlt : j < xs.length := by have := (List.getElem?_eq_some_iff.1 hj).1; simpa using this
      obtain ⟨b, o', he, hb, _, hcell⟩ := hxx (ne_of_lt hlt)
      obtain ⟨x, hx⟩ := get_lt hlt
      simp only [Option.some.injEq] at he
      subst he
      rw [Addr.add_lit, World.cell?_alloc_lt _ _ _ (by simp; omega), hcell j x hx]
      simpa [hx] using hj
    obtain ⟨i0, hi, hz0, hz1, hz2⟩ := info_parts info3
    clear hxx
    have hnb : Hid (xs.length * 8 ≤ 140737488355328 ∧ xs.length ≤ maxLen) := ⟨by omega, by simp [maxLen]; omega⟩
    go_enter Tryz.func140, Tryz.ntmps140
    go_wp2_with (at_builtin; refine wpList_append_own _ rfl _ _ 65 rfl w.heap.size 3 i0 (.int .i64 0) 1 8 Tryz.underlying65 hi hz0 hz1 hz2 rfl (by decide) _ _ _ rfl (World.ownsRow_made w #[] 0 (Nat.le_refl _) (Nat.zero_le _) (by simp)) ad xs.length c (xs.map (Value.int .i64)) rfl ?qc1 ?qc2 ?qc3 ?qc4 ?qc5 ?qc6 ?_)
    case qc1 => simp
    case qc2 => intro j u hj; exact A.out j u hj _
    case qc3 => intro u hu; obtain ⟨x, _, rfl⟩ := List.mem_map.1 hu; rfl
    case qc4 => rw [Nat.zero_add]; exact hnb.out.2
    case qc5 => rw [Nat.zero_add]; exact hnb.out.1
    case qc6 => simp
    intro v' w1 hown hgrow hnil
    have hne : v' ≠ .slice none 0 0 := hnil
    go_wp2
    go_ret
    refine ⟨v', rfl, .inr ?_, ((Below.refl _ w).alloc (Nat.le_refl _) _).grown hgrow (by simp) (by intro k hk; simp [Value.ownBlock] at hk; omega)⟩
    obtain ⟨_, ⟨hv, h0⟩ | ⟨g, cap, cur, hv, hb, hcur, hc, _, hsz, hx⟩⟩ := hown
    · exact absurd hv hne
    · refine ⟨g, cap, hv, hb, hc, ⟨fun i x hi => ?_, fun i _ => frozen_zero hcur, (Array.getElem?_eq_some_iff.1 hcur).1⟩⟩
      have hi2 : i < xs.length := (List.getElem?_eq_some_iff.1 hi).1
      have : cur[i]? = some (.int .i64 x) := by
        have h1 : (xs.map (Value.int .i64))[i]? = some (.int .i64 x) := by simp [hi]
        have h2 : (cur.toList.take (xs.length * 1))[i]? = some (.int .i64 x) := by rw [hx]; simpa using h1
        rw [List.getElem?_take_of_lt (by omega)] at h2
        simpa using h2
      simp [World.cell?, hcur, this]

set_option maxHeartbeats 1000000 in
set_option maxRecDepth 100000 in
theorem cloneC_new (B : Nat) (v : Value) (l : List Col) (w : World) (hB : B ≤ w.heap.size) (hx : Cols w B v l) (hsm : l.length ≤ 1073741824) :
    Calls Tryz.prog 169 #[v] w fun e w' => ∃ v', e = .returned v' ∧ Cols w' w'.heap.size v' l ∧ Adr (fun b => w.heap.size ≤ b) v' ∧ Below w.heap.size w w' := by
  obtain ⟨a, c, rfl, hc, hl, hnm, hxx⟩ := hx
  have q22 : ∀ (w : World) (a : Option Addr) (n c n' c' : Nat), (binOp .eql 24 (.slice a n c) (.slice none n' c')).run Tryz.prog w = .ok (.bool a.isNone) w := fun w a n c n' c' => Lib.run_eql_slice_nil w _ _ a n c n' c' Tryz.underlying24
  cases a with
  | none =>
    obtain rfl : l = [] := by
      cases l with
      | nil => rfl
      | cons x l => obtain ⟨b, o, h, _⟩ := hxx (by simp); cases h
    clear hxx
    go_enter Tryz.func169, Tryz.ntmps169
    go_wp2
    go_ret
    exact ⟨_, rfl, ⟨none, 0, rfl, Nat.le_refl _, by simp, hnm, fun h => absurd rfl h⟩, adr_nil _, Below.refl _ _⟩
  | some ad =>
    have A : Hid (∀ j u, (flatC l)[j]? = some u → ∀ o, (w.alloc o).cell? (ad.add j) = some u) := by
      intro j u hj o
      have hlt : j < l.length * 2 := by rw [← flatC_len]; exact (List.getElem?_eq_some_iff.1 hj).1
      obtain ⟨b, o', he, hb, hcell⟩ := hxx (ne_of_lt (i := j / 2) (by omega))
      simp only [Option.some.injEq] at he
      subst he
      rw [Addr.add_lit, World.cell?_alloc_lt _ _ _ (by simp; omega)]
      exact flatC_cells hcell j u hj
    obtain ⟨i0, hi, hz0, hz1, hz2⟩ := info_parts info47
    have HNM : Hid (∀ x ∈ l, x.1.size ≤ 9223372036854775807) := hnm
    clear hxx hnm
    have hnb : Hid (l.length * 24 ≤ 140737488355328 ∧ l.length ≤ maxLen) := ⟨by omega, by simp [maxLen]; omega⟩
    go_enter Tryz.func169, Tryz.ntmps169
    go_wp2_with (at_builtin; refine wpList_append_own _ rfl _ _ 24 rfl w.heap.size 74 i0 (.agg #[.string ByteArray.empty, .int .i64 0]) 2 24 Tryz.underlying24 hi hz0 hz1 hz2 rfl (by decide) _ _ _ rfl (World.ownsRow_made w #[] 0 (Nat.le_refl _) (Nat.zero_le _) (by simp)) ad l.length c (flatC l) rfl ?qc1 ?qc2 ?qc3 ?qc4 ?qc5 ?qc6 ?_)
    case qc1 => exact flatC_len l
    case qc2 => intro j u hj; exact A.out j u hj _
    case qc3 => intro u hu; obtain ⟨x, _, hx⟩ := List.mem_flatMap.1 hu; simp at hx; rcases hx with rfl | rfl <;> rfl
    case qc4 => rw [Nat.zero_add]; exact hnb.out.2
    case qc5 => rw [Nat.zero_add]; exact hnb.out.1
    case qc6 => simp
    intro v' w1 hown hgrow hnil
    go_wp2
    go_ret
    have hadr : Adr (fun b => w.heap.size ≤ b) v' := fun b o n c e => owns_block hown b (by rw [e]; rfl)
    refine ⟨v', rfl, ?_, hadr, ((Below.refl _ w).alloc (Nat.le_refl _) _).grown hgrow (by simp) (by intro k hk; simp [Value.ownBlock] at hk; omega)⟩
    obtain ⟨_, ⟨hv, h0⟩ | ⟨g, cap, cur, hv, hb, hcur, hc, _, hsz, hx⟩⟩ := hown
    · obtain rfl : l = [] := List.length_eq_zero_iff.1 (by omega)
      exact ⟨none, 0, hv, Nat.le_refl _, by simp, HNM.out, fun h => absurd rfl h⟩
    · refine ⟨_, cap, hv, hc, hl, HNM.out, fun _ => ⟨g, 0, rfl, (Array.getElem?_eq_some_iff.1 hcur).1, fun i x hi => ?_⟩⟩
      have hi2 : i < l.length := (List.getElem?_eq_some_iff.1 hi).1
      have hget : ∀ j u, (flatC l)[j]? = some u → w1.cell? ⟨g, 0 + j, none⟩ = some u := by
        intro j u hj
        have hj2 : j < l.length * 2 := by rw [← flatC_len]; exact (List.getElem?_eq_some_iff.1 hj).1
        have : cur[j]? = some u := by
          have h2 : (cur.toList.take (l.length * 2))[j]? = some u := by rw [hx]; simpa using hj
          rw [List.getElem?_take_of_lt hj2] at h2
          simpa using h2
        simp [World.cell?, hcur, this]
      have hg := flatC_get l i
      exact ⟨hget _ _ (by rw [hg.1, hi]; rfl), by rw [Nat.add_assoc]; exact hget _ _ (by rw [hg.2, hi]; rfl)⟩

theorem Cols.adr {w : World} {B : Nat} {v : Value} {l : List Col} (h : Cols w B v l) (hne : l ≠ []) : Adr (fun b => b < B) v := by
  obtain ⟨a, c, hv, _, _, _, hx⟩ := h
  obtain ⟨b, o, e, hb, _⟩ := hx hne
  rw [hv, e]
  exact adr_at hb

theorem Adr.and {P P' : Nat → Prop} {v : Value} (h : Adr P v) (k : Adr P' v) : Adr (fun b => P b ∧ P' b) v := fun b o n c e => ⟨h b o n c e, k b o n c e⟩

theorem owns_gb {w w' : World} {base : Nat} {e : TypeId} {size : Nat} {v : Value} {n : Nat} {xs : List Value} {row : Option Nat} (h : w.ownsRow base e size v n xs) (hg : w.grownBy w' row) (hr : ∀ g, v.ownBlock = some g → row ≠ some g) : w'.ownsRow base e size v n xs := by
  obtain ⟨h1, h2⟩ := h
  refine ⟨h1, ?_⟩
  rcases h2 with h2 | ⟨g, cap, cur, hv, hb, hcur, h3⟩
  · exact .inl h2
  · exact .inr ⟨g, cap, cur, hv, hb, by rw [hg.block g (Array.getElem?_eq_some_iff.1 hcur).1 (fun e => hr g (by rw [hv]; rfl) e.symm)]; exact hcur, h3⟩

/-- a store into a block that is not the rows' own -/
theorem Rwr.setT {w : World} {lo T k : Nat} {v : Value} {ts : List Rw} (h : Rwr w lo v ts) (hT : v.ownBlock ≠ some T) (hs : Som (T + 1) ts) (u : Value) : Rwr (w.setCell ⟨T, k, none⟩ u) lo v ts := by
  refine ⟨owns_gb h.1 (gb_set (gb_refl _ _) k u) (fun g e1 e2 => hT (by rw [e1, e2])), fun t ht => ?_⟩
  obtain ⟨m, h1, h2⟩ := h.2 t ht
  obtain ⟨b, o, n, c, e, hb⟩ := hs t ht
  exact ⟨m, by have := h1.setb (b := T) (k := k) ⟨b, o, n, c, e, hb⟩ u; simpa [World.setCell] using this, h2⟩

theorem rr_snoc (ts : List Rw) (t : Rw) : rr (ts ++ [t]) = rr ts ++ [t.2] := by simp [rr]

end Go.Proofs.YtlndlpjadajelaaGreat.K
