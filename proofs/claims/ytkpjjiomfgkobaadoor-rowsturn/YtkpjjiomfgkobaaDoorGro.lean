import Derived.Test.YtkpjjiomfgkobaaDoorCnt
import Derived.Maps.AppendAt
import Derived.Laws.OwnMore
import Derived.Lib.SliceRun
namespace Go.Proofs.YtkpjjiomfgkobaaDoor
open Go.RowKit Go.Proofs.YtkpjjiomfgkobaaDoor.Ds

theorem frozen_zero {w : World} {g j : Nat} {cur : Array Value} {e : TypeId} (h : w.heap[g]? = some (.cells cur e (0, 0))) : w.frozen? ⟨g, j, none⟩ = false := by
  simp [World.frozen?, h]
theorem owns_below {w w' : World} {base : Nat} {e : TypeId} {size : Nat} {v : Value} {n : Nat} {xs : List Value} (h : w.ownsRow base e size v n xs) (hb : Below w.heap.size w w') : w'.ownsRow base e size v n xs := by
  obtain ⟨h1, h2⟩ := h
  refine ⟨h1, ?_⟩
  rcases h2 with h2 | ⟨g, cap, cur, hv, hg, hcur, h3⟩
  · exact .inl h2
  · exact .inr ⟨g, cap, cur, hv, hg, by rw [hb.block g (Array.getElem?_eq_some_iff.1 hcur).1]; exact hcur, h3⟩
theorem owns_block {w : World} {base : Nat} {e : TypeId} {size : Nat} {v : Value} {n : Nat} {xs : List Value} (h : w.ownsRow base e size v n xs) : ∀ k, v.ownBlock = some k → base ≤ k := by
  intro k hk
  obtain ⟨_, ⟨rfl, _⟩ | ⟨g, cap, cur, rfl, hg, _⟩⟩ := h
  · simp [Value.ownBlock] at hk
  · simp [Value.ownBlock] at hk; omega
theorem owns_slice {w : World} {base : Nat} {e : TypeId} {size : Nat} {v : Value} {n : Nat} {xs : List Value} (h : w.ownsRow base e size v n xs) : ∃ a c, v = .slice a n c := by
  obtain ⟨_, ⟨rfl, rfl⟩ | ⟨g, cap, cur, rfl, _⟩⟩ := h
  · exact ⟨_, _, rfl⟩
  · exact ⟨_, _, rfl⟩
theorem owns_some {w : World} {base : Nat} {e : TypeId} {size : Nat} {v : Value} {n : Nat} {xs : List Value} (h : w.ownsRow base e size v n xs) (hne : v ≠ .slice none 0 0) : ∃ g c, v = .slice (some ⟨g, 0, none⟩) n c ∧ base ≤ g ∧ g < w.heap.size := by
  obtain ⟨_, ⟨rfl, rfl⟩ | ⟨g, cap, cur, rfl, hb, hcur, _⟩⟩ := h
  · exact absurd rfl hne
  · exact ⟨g, cap, rfl, hb, (Array.getElem?_eq_some_iff.1 hcur).1⟩
theorem ints_of_owns {w : World} {base nb : Nat} {v : Value} {xs : List Int} {n : Nat} (hn : n = xs.length) (hl : xs.length ≤ 9223372036854775807) (h : w.ownsRow base 3 1 v n (xs.map (.int .i64))) (hnb : nb < base) : Ints w w.heap.size nb v xs := by
  subst hn
  obtain ⟨_, ⟨hv, h0⟩ | ⟨g, cap, cur, hv, hb, hcur, hc, _, hsz, hx⟩⟩ := h
  · obtain rfl : xs = [] := by cases xs <;> simp_all
    exact ⟨none, 0, hv, Nat.le_refl _, hl, fun h => absurd rfl h⟩
  · refine ⟨_, cap, hv, hc, hl, fun _ => ⟨g, 0, rfl, (Array.getElem?_eq_some_iff.1 hcur).1, by omega, fun i x hi => ?_⟩⟩
    have hi2 : i < xs.length := (List.getElem?_eq_some_iff.1 hi).1
    have : cur[i]? = some (.int .i64 x) := by
      have h1 : (xs.map (Value.int .i64))[i]? = some (.int .i64 x) := by simp [hi]
      rw [← hx, List.getElem?_take_of_lt (by omega)] at h1
      simpa using h1
    simp [World.cell?, hcur, this]
theorem own_or2 {v : Value} {lo n : Nat} (h : ∀ g, v.ownBlock = some g → lo ≤ g ∧ g < n) (hn : lo < n) : ∃ m, lo ≤ m ∧ m < n ∧ ∀ g, v.ownBlock = some g → m = g := by
  cases e : v.ownBlock with
  | none => exact ⟨lo, Nat.le_refl _, hn, fun g e => by cases e⟩
  | some g => exact ⟨g, (h g e).1, (h g e).2, fun g' e => by simpa using e⟩

theorem info26 : (Tryd.prog.info? 39).map (fun i => (i.zero, i.size, i.bytes)) = some (some (.slice none 0 0), 1, 24) := by kernel_rfl
theorem info47 : (Tryd.prog.info? 52).map (fun i => (i.zero, i.size, i.bytes)) = some (some (.agg #[.string ByteArray.empty, .int .i64 0]), 2, 24) := by kernel_rfl
theorem info25 : (Tryd.prog.info? 25).map (fun i => (i.zero, i.size, i.bytes)) = some (some (.agg #[.slice none 0 0, .slice none 0 0]), 2, 48) := by kernel_rfl

/-- ROWS OF ONE's OWN THAT GROW: the numbers of each lie outside of the block that grows -/
def Rwr (w : World) (lo : Nat) (v : Value) (ts : List Rw) : Prop :=
  w.ownsRow lo 39 1 v ts.length (ts.map (·.1)) ∧ ∀ t ∈ ts, ∃ m, Ints w w.heap.size m t.1 t.2 ∧ ∀ g, v.ownBlock = some g → m = g
theorem Rwr.nil (w : World) (lo : Nat) : Rwr w lo (.slice none 0 0) [] := ⟨⟨rfl, .inl ⟨rfl, rfl⟩⟩, fun t ht => by cases ht⟩
theorem Rwr.keep {w w' : World} {lo : Nat} {v : Value} {ts : List Rw} (h : Rwr w lo v ts) (hb : Below w.heap.size w w') : Rwr w' lo v ts :=
  ⟨owns_below h.1 hb, fun t ht => let ⟨m, h1, h2⟩ := h.2 t ht; ⟨m, h1.at2 hb, h2⟩⟩
theorem Rwr.mono {w : World} {lo lo' : Nat} {v : Value} {ts : List Rw} (h : Rwr w lo v ts) (hl : lo' ≤ lo) : Rwr w lo' v ts := by
  refine ⟨?_, h.2⟩
  obtain ⟨h1, h2 | ⟨g, cap, cur, hv, hg, h3⟩⟩ := h.1
  · exact ⟨h1, .inl h2⟩
  · exact ⟨h1, .inr ⟨g, cap, cur, hv, by omega, h3⟩⟩
theorem Rwr.slice {w : World} {lo : Nat} {v : Value} {ts : List Rw} (h : Rwr w lo v ts) : ∃ a c, v = .slice a ts.length c := owns_slice h.1
theorem Rwr.lt {w : World} {lo : Nat} {v : Value} {ts : List Rw} (h : Rwr w lo v ts) : ∀ g, v.ownBlock = some g → lo ≤ g ∧ g < w.heap.size := h.1.lt
theorem Ints.grow {W w' : World} {B m m' : Nat} {s : Value} {xs : List Int} {row : Option Nat} (h : Ints W B m s xs) (hg : W.grownBy w' row) (hB : B ≤ W.heap.size) (hrow : ∀ g, row = some g → m = g) (hm : m' = m ∨ B ≤ m') : Ints w' w'.heap.size m' s xs := by
  obtain ⟨a, c, hv, hc, hl, hx⟩ := h
  refine ⟨a, c, hv, hc, hl, fun hne => ?_⟩
  obtain ⟨b, o, ha, hb, hn, hcell⟩ := hx hne
  have := hg.size
  refine ⟨b, o, ha, by omega, by rcases hm with h | h <;> omega, fun i x hi => ?_⟩
  refine hg.cell (hcell i x hi) fun e => hn ?_
  exact (hrow b e.symm).symm
theorem Rwr.app {W w' : World} {lo : Nat} {v v' s : Value} {ts : List Rw} {xs : List Int} {m : Nat} (h : Rwr W lo v ts) (hown : w'.ownsRow lo 39 1 v' (ts.length + 1) (ts.map (·.1) ++ [s])) (hg : W.grownBy w' v.ownBlock)
    (hat : v'.ownBlock = v.ownBlock ∨ v'.ownBlock = some W.heap.size) (hi : Ints W W.heap.size m s xs) (hm : ∀ g, v.ownBlock = some g → m = g) : Rwr w' lo v' (ts ++ [(s, xs)]) := by
  refine ⟨by simpa using hown, fun t ht => ?_⟩
  have key : ∀ (m : Nat) (s : Value) (xs : List Int), Ints W W.heap.size m s xs → (∀ g, v.ownBlock = some g → m = g) → ∃ m', Ints w' w'.heap.size m' s xs ∧ ∀ g, v'.ownBlock = some g → m' = g := by
    intro m s xs h1 h2
    rcases hat with hat | hat
    · exact ⟨m, h1.grow hg (Nat.le_refl _) h2 (.inl rfl), by rw [hat]; exact h2⟩
    · exact ⟨W.heap.size, h1.grow hg (Nat.le_refl _) h2 (.inr (Nat.le_refl _)), by rw [hat]; intro g e; simpa using e⟩
  rcases List.mem_append.1 ht with ht | ht
  · obtain ⟨m, h1, h2⟩ := h.2 t ht
    exact key m t.1 t.2 h1 h2
  · obtain rfl : t = (s, xs) := by simpa using ht
    exact key m s xs hi hm
theorem rws_nil (w : World) (B : Nat) : Rws w B (.slice none 0 0) [] := ⟨none, 0, rfl, Nat.le_refl _, by simp, by simp, fun h => absurd rfl h⟩
theorem Rwr.rws {w : World} {lo : Nat} {v : Value} {ts : List Rw} (h : Rwr w lo v ts) (hl : ts.length ≤ 9223372036854775807) : Rws w w.heap.size v ts := by
  have hi : ∀ t ∈ ts, Ints w w.heap.size w.heap.size t.1 t.2 := fun t ht => let ⟨m, h1, _⟩ := h.2 t ht; h1.mono (Nat.le_refl _) (.inr (Nat.le_refl _))
  obtain ⟨_, ⟨hv, h0⟩ | ⟨g, cap, cur, hv, hb, hcur, hc, _, hsz, hx⟩⟩ := h.1
  · obtain rfl : ts = [] := List.length_eq_zero_iff.1 h0
    subst hv
    exact rws_nil w _
  · refine ⟨_, cap, hv, hc, hl, hi, fun _ => ⟨g, 0, rfl, (Array.getElem?_eq_some_iff.1 hcur).1, fun i t ht => ?_⟩⟩
    have hi2 : i < ts.length := (List.getElem?_eq_some_iff.1 ht).1
    have : cur[i]? = some t.1 := by
      have h1 : (ts.map (·.1))[i]? = some t.1 := by simp [ht]
      rw [← hx, List.getElem?_take_of_lt (by omega)] at h1
      simpa using h1
    simp [World.cell?, hcur, this]
/-- each row's value has a place, from lo on -/
def Som (lo : Nat) (ts : List Rw) : Prop := ∀ t ∈ ts, ∃ b o n c, t.1 = .slice (some ⟨b, o, none⟩) n c ∧ lo ≤ b
theorem Som.nil (lo : Nat) : Som lo [] := fun t ht => by cases ht
theorem Som.snoc {lo : Nat} {ts : List Rw} {b o n c : Nat} {xs : List Int} (h : Som lo ts) (hb : lo ≤ b) : Som lo (ts ++ [(.slice (some ⟨b, o, none⟩) n c, xs)]) := by
  intro t ht
  rcases List.mem_append.1 ht with ht | ht
  · exact h t ht
  · obtain rfl := List.mem_singleton.1 ht; exact ⟨b, o, n, c, rfl, hb⟩
theorem Som.add {lo : Nat} {ts : List Rw} {t : Rw} (h : Som lo ts) (hb : ∃ b o n c, t.1 = .slice (some ⟨b, o, none⟩) n c ∧ lo ≤ b) : Som lo (ts ++ [t]) := by
  intro u ht
  rcases List.mem_append.1 ht with ht | ht
  · exact h u ht
  · obtain rfl := List.mem_singleton.1 ht; exact hb
theorem Som.mono {lo lo' : Nat} {ts : List Rw} (h : Som lo ts) (hl : lo' ≤ lo) : Som lo' ts := fun t ht => let ⟨b, o, n, c, e, hb⟩ := h t ht; ⟨b, o, n, c, e, Nat.le_trans hl hb⟩
/-- so its numbers lie nowhere below lo -/
theorem Ints.not {w : World} {B nb m lo : Nat} {v : Value} {xs : List Int} (h : Ints w B nb v xs) (hs : ∃ b o n c, v = .slice (some ⟨b, o, none⟩) n c ∧ lo ≤ b) (hm : m < lo) : Ints w B m v xs := by
  obtain ⟨a, c, hv, hc, hl, hx⟩ := h
  obtain ⟨b, o, n, c2, hv2, hb⟩ := hs
  refine ⟨a, c, hv, hc, hl, fun hne => ?_⟩
  obtain ⟨b', o', ha, hB, _, hcell⟩ := hx hne
  refine ⟨b', o', ha, hB, ?_, hcell⟩
  rw [hv, ha] at hv2
  simp only [Value.slice.injEq, Option.some.injEq, Addr.mk.injEq] at hv2
  have := hv2.1.1
  omega

/-- the cells of columns -/
def flatC (l : List Col) : List Value := l.flatMap fun c => [.string c.1, .int .i64 c.2]
theorem flatC_len (l : List Col) : (flatC l).length = l.length * 2 := by
  induction l with
  | nil => rfl
  | cons t l ih => simp [flatC] at *; omega
theorem flatC_get (l : List Col) (i : Nat) : (flatC l)[i * 2]? = l[i]?.map (fun c => .string c.1) ∧ (flatC l)[i * 2 + 1]? = l[i]?.map fun c => .int .i64 c.2 := by
  induction l generalizing i with
  | nil => simp [flatC]
  | cons t l ih =>
    cases i with
    | zero => simp [flatC]
    | succ i =>
      have h := ih i
      have e : flatC (t :: l) = .string t.1 :: .int .i64 t.2 :: flatC l := rfl
      rw [e, show (i + 1) * 2 = i * 2 + 1 + 1 by omega, show i * 2 + 1 + 1 + 1 = (i * 2 + 1) + 1 + 1 by omega]
      simpa using h
theorem flatC_cells {w : World} {b o : Nat} {l : List Col} (h : ∀ i x, l[i]? = some x → w.cell? ⟨b, o + i * 2, none⟩ = some (.string x.1) ∧ w.cell? ⟨b, o + i * 2 + 1, none⟩ = some (.int .i64 x.2)) : ∀ j u, (flatC l)[j]? = some u → w.cell? ⟨b, o + j, none⟩ = some u := by
  intro j u hj
  have hlt : j < l.length * 2 := by rw [← flatC_len]; exact (List.getElem?_eq_some_iff.1 hj).1
  obtain ⟨t, ht⟩ := get_lt (l := l) (i := j / 2) (by omega)
  have hg := flatC_get l (j / 2)
  rcases Nat.mod_two_eq_zero_or_one j with hm | hm
  · have e : j = j / 2 * 2 := by omega
    rw [e] at hj ⊢
    rw [hg.1, ht] at hj
    rw [(h _ t ht).1]; simpa using hj
  · have e : j = j / 2 * 2 + 1 := by omega
    rw [e] at hj ⊢
    rw [hg.2, ht] at hj
    rw [← Nat.add_assoc, (h _ t ht).2]; simpa using hj

end Go.Proofs.YtkpjjiomfgkobaaDoor
