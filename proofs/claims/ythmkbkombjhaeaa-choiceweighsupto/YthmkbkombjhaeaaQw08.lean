import Derived.Test.YthmkbkombjhaeaaQw05
import Derived.Test.YthmkbkombjhaeaaQw07
namespace Go.Proofs.Ythmkbkombjhaeaa
open Go.RowKit Go.Proofs.Ythmkbkombjhaeaa.Ds

/-- the greatest -/
def mxI : List Int → Int
  | [] => 0
  | [a] => a
  | a :: l => max a (mxI l)
/-- how far below the best -/
def belT (l : List Int) : List Nat := l.map fun n => (mxI l - n).toNat
/-- the greatest of these -/
def mxN (s : List Nat) : Nat := s.foldr max 0
def wgW (u d : Int) (s : List Nat) (i : Nat) : Int := u ^ (mxN s - s.getD i 0) * d ^ s.getD i 0
theorem mxI_le : ∀ {l : List Int} {n : Int}, n ∈ l → n ≤ mxI l
  | [], _, h => by cases h
  | [a], n, h => by simp at h; subst h; simp [mxI]
  | a :: b :: l, n, h => by
    simp only [mxI]
    rcases List.mem_cons.1 h with rfl | h
    · omega
    · have := mxI_le h; omega
theorem mxI_mem : ∀ {l : List Int}, l ≠ [] → mxI l ∈ l
  | [], h => absurd rfl h
  | [a], _ => by simp [mxI]
  | a :: b :: l, _ => by
    have h := mxI_mem (l := b :: l) (by simp)
    simp only [mxI]
    by_cases c : mxI (b :: l) ≤ a
    · rw [show max a (mxI (b :: l)) = a by omega]; exact List.mem_cons_self ..
    · rw [show max a (mxI (b :: l)) = mxI (b :: l) by omega]; exact List.mem_cons_of_mem _ h
theorem bel_len (l : List Int) : (belT l).length = l.length := by simp [belT]
theorem bel_get {l : List Int} {i : Nat} (h : i < l.length) : (((belT l).getD i 0 : Nat) : Int) = mxI l - l.getD i 0 := by
  have h1 : (belT l)[i]? = some ((mxI l - l[i]).toNat) := by simp [belT, List.getElem?_eq_getElem h]
  have h2 : l[i]? = some l[i] := List.getElem?_eq_getElem h
  have := mxI_le (List.getElem_mem h)
  simp only [List.getD, h1, h2, Option.getD_some]
  omega
theorem bel_zero {l : List Int} (h : 1 ≤ l.length) : 0 ∈ belT l := by
  have hne : l ≠ [] := by intro e; rw [e] at h; simp at h
  exact List.mem_map.2 ⟨mxI l, mxI_mem hne, by omega⟩
theorem mxN_le {s : List Nat} {i : Nat} (h : i < s.length) : s.getD i 0 ≤ mxN s := by
  induction s generalizing i with
  | nil => simp at h
  | cons a s ih =>
    have e : mxN (a :: s) = max a (mxN s) := rfl
    rw [e]
    cases i with
    | zero => simp only [List.getD_cons_zero]; omega
    | succ i => simp only [List.getD_cons_succ]; have := ih (i := i) (by simpa using h); omega
/-! ### UP TO A LIMIT -/
theorem lim_min (x : Int) : lim x = min x 1073741825 := by unfold lim; split <;> omega
theorem lim_bd {x : Int} (h : 1 ≤ x) : 1 ≤ lim x ∧ lim x ≤ 1073741825 ∧ lim x ≤ x := by unfold lim; split <;> omega
theorem lim_of {x : Int} (h : x ≤ 1073741824) : lim x = x := if_pos h
theorem lim_over {x : Int} (h : ¬ x ≤ 1073741824) : lim x = 1073741825 := if_neg h
theorem lim_mul {a b : Int} (hb : 1 ≤ b) : lim (lim a * b) = lim (a * b) := by
  by_cases c : a ≤ 1073741824
  · rw [lim_of c]
  · rw [lim_over c, lim_over, lim_over]
    · have := Int.mul_le_mul (show (1073741825 : Int) ≤ a by omega) hb (by omega) (by omega)
      omega
    · have := Int.mul_le_mul_of_nonneg_left hb (show (0 : Int) ≤ 1073741825 by omega)
      omega
theorem lim_mul2 {a b : Int} (ha : 1 ≤ a) (hb : 1 ≤ b) : lim (lim a * lim b) = lim (a * b) := by
  rw [lim_mul (lim_bd hb).1, Int.mul_comm, lim_mul ha, Int.mul_comm]
theorem lim_lim (a : Int) : lim (lim a) = lim a := by rw [lim_min, lim_min]; omega
theorem lim_sum {g : Nat → Int} {r : List Nat} (h : ∀ i ∈ r, 1 ≤ g i) : (1073741824 < Ps.sumI (fun i => lim (g i)) r ↔ 1073741824 < Ps.sumI g r) ∧ (Ps.sumI g r ≤ 1073741824 → ∀ i ∈ r, lim (g i) = g i) := by
  have nn : ∀ {r : List Nat}, (∀ i ∈ r, 1 ≤ g i) → 0 ≤ Ps.sumI g r := fun h => Ps.sumI_nn fun i hi => by have := h i hi; omega
  have nl : ∀ {r : List Nat}, (∀ i ∈ r, 1 ≤ g i) → 0 ≤ Ps.sumI (fun i => lim (g i)) r := fun h => Ps.sumI_nn fun i hi => by have := lim_bd (h i hi); omega
  have le : ∀ {r : List Nat}, (∀ i ∈ r, 1 ≤ g i) → Ps.sumI (fun i => lim (g i)) r ≤ Ps.sumI g r := fun h => Ps.sumI_le fun i hi => (lim_bd (h i hi)).2.2
  have all : ∀ {r : List Nat}, (∀ i ∈ r, 1 ≤ g i) → Ps.sumI (fun i => lim (g i)) r ≤ 1073741824 → ∀ i ∈ r, lim (g i) = g i := by
    intro r
    induction r with
    | nil => intro _ _ i hi; cases hi
    | cons a r ih =>
      intro h hs i hi
      simp only [Ps.sumI] at hs
      have h1 := nl fun i hi => h i (List.mem_cons_of_mem _ hi)
      have h2 := lim_bd (h a (List.mem_cons_self ..))
      rcases List.mem_cons.1 hi with rfl | hi
      · by_cases c : g i ≤ 1073741824
        · exact lim_of c
        · rw [lim_over c] at hs; omega
      · exact ih (fun i hi => h i (List.mem_cons_of_mem _ hi)) (by omega) i hi
  have eqv : Ps.sumI (fun i => lim (g i)) r ≤ 1073741824 ↔ Ps.sumI g r ≤ 1073741824 := by
    constructor
    · intro h1
      rw [← Ps.sumI_congr (all h h1)]
      exact h1
    · intro h1
      have := le h
      omega
  exact ⟨by omega, fun h1 => all h (eqv.2 h1)⟩
theorem sumI_range_succ (g : Nat → Int) (n : Nat) : Ps.sumI g (List.range (n + 1)) = Ps.sumI g (List.range n) + g n := by
  rw [List.range_succ, Ps.sumI_append]
  simp [Ps.sumI]
theorem pI_range_succ (U : Nat → Int) (n : Nat) : Ps.pI U (List.range (n + 1)) = Ps.pI U (List.range n) * U n := by
  rw [List.range_succ, Ps.pI_perm U (List.perm_append_comm), List.singleton_append, Ps.pI_cons, Int.mul_comm]

/-! ### in how many ways -/
def wayN (u : Int) (s : List Nat) (k : Nat) : Int := (Ps.fact k : Nat) * Ps.pI (fun j => u ^ s.getD j 0) (List.range k)
theorem way_pos {u : Int} (hu : 1 ≤ u) (s : List Nat) (k : Nat) : 1 ≤ wayN u s k := by
  unfold wayN
  have h1 : (1 : Int) ≤ (Ps.fact k : Nat) := by have := Ps.fact_pos k; omega
  have h2 := Ps.pI_nn (U := fun j => u ^ s.getD j 0) (l := List.range k) fun a => pow_pos' hu _
  have := Int.mul_le_mul h1 h2 (by omega) (by omega)
  omega
theorem way_succ (u : Int) (s : List Nat) (k : Nat) : wayN u s (k + 1) = wayN u s k * ((k : Int) + 1) * u ^ s.getD k 0 := by
  unfold wayN
  rw [pI_range_succ]
  have : ((Ps.fact (k + 1) : Nat) : Int) = ((k : Int) + 1) * (Ps.fact k : Nat) := by simp [Ps.fact]
  rw [this]
  generalize ((Ps.fact k : Nat) : Int) = f
  generalize Ps.pI (fun j => u ^ s.getD j 0) (List.range k) = p
  generalize u ^ s.getD k 0 = q
  grind
theorem way_step {u : Int} (hu : 1 ≤ u) (s : List Nat) (k : Nat) : lim (lim (lim (wayN u s k) * ((k : Int) + 1)) * lim (u ^ s.getD k 0)) = lim (wayN u s (k + 1)) := by
  have h1 := way_pos hu s k
  have h2 : 1 ≤ u ^ s.getD k 0 := pow_pos' hu _
  have h3 := Int.mul_le_mul h1 (show (1 : Int) ≤ (k : Int) + 1 by omega) (by omega) (by omega)
  rw [lim_mul (a := wayN u s k) (show (1 : Int) ≤ (k : Int) + 1 by omega), lim_mul2 (by omega) h2, ← way_succ]
theorem way_zero (u : Int) (s : List Nat) : wayN u s 0 = 1 := by simp [wayN, Ps.fact, Ps.pI]

/-! ### the greatest of a list -/
theorem mxI_snoc : ∀ (l : List Int) (a : Int), l ≠ [] → mxI (l ++ [a]) = max (mxI l) a
  | [], _, h => absurd rfl h
  | [b], a, _ => by simp [mxI]
  | b :: c :: l, a, _ => by
    have h := mxI_snoc (c :: l) a (by simp)
    have e : (b :: c :: l) ++ [a] = b :: c :: (l ++ [a]) := rfl
    have e2 : mxI (b :: c :: (l ++ [a])) = max b (mxI (c :: (l ++ [a]))) := rfl
    have e3 : mxI (b :: c :: l) = max b (mxI (c :: l)) := rfl
    have e4 : (c :: l) ++ [a] = c :: (l ++ [a]) := rfl
    rw [e, e2, e3, ← e4, h]
    omega
theorem mxI_take {l : List Int} {k : Nat} {a : Int} (hk : 1 ≤ k) (h : l[k]? = some a) : mxI (l.take (k + 1)) = max (mxI (l.take k)) a := by
  rw [List.take_add_one, h]
  refine mxI_snoc _ _ ?_
  intro e
  have := congrArg List.length e
  have hl : k < l.length := by
    rw [List.getElem?_eq_some_iff] at h
    exact h.1
  rw [List.length_take, List.length_nil] at this
  omega
theorem mxI_one {l : List Int} {a : Int} (h : l[0]? = some a) : mxI (l.take 1) = a := by
  cases l with
  | nil => simp at h
  | cons b l => simp at h; subst h; simp [mxI]
/-- how far below, as numbers -/
def farI (l : List Int) : List Int := l.map fun n => mxI l - n
theorem farI_get {l : List Int} {i : Nat} (h : i < l.length) : (farI l)[i]? = some ((((belT l).getD i 0 : Nat) : Int)) := by
  rw [bel_get h]
  simp [farI, List.getD, List.getElem?_eq_getElem h]
theorem farI_len (l : List Int) : (farI l).length = l.length := by simp [farI]
theorem mxI_iff {l : List Int} (hne : l ≠ []) (b : Int) : mxI l ≤ b ↔ ∀ n ∈ l, n ≤ b := by
  constructor
  · intro h n hn
    have := mxI_le hn
    omega
  · intro h
    exact h _ (mxI_mem hne)
/-- the greatest of how far below: as of whole numbers -/
theorem farI_max {l : List Int} (h : 1 ≤ l.length) : mxI (farI l) = ((mxN (belT l) : Nat) : Int) := by
  have hb : farI l = (belT l).map fun (n : Nat) => ((n : Nat) : Int) := by
    unfold farI belT
    rw [List.map_map]
    refine List.map_congr_left fun n hn => ?_
    have := mxI_le hn
    simp
    omega
  rw [hb]
  have hne : belT l ≠ [] := by intro e; have := congrArg List.length e; rw [bel_len] at this; simp at this; simp [this] at h
  generalize belT l = s at *
  clear hb h
  induction s with
  | nil => exact absurd rfl hne
  | cons a s ih =>
    cases s with
    | nil => simp [mxI, mxN]
    | cons b s =>
      have h1 := ih (by simp)
      have e1 : mxI ((a :: b :: s).map fun (n : Nat) => ((n : Nat) : Int)) = max (a : Int) (mxI ((b :: s).map fun (n : Nat) => ((n : Nat) : Int))) := rfl
      have e2 : mxN (a :: b :: s) = max a (mxN (b :: s)) := rfl
      rw [e1, e2, h1]
      omega
end Go.Proofs.Ythmkbkombjhaeaa

namespace Go.Proofs.Ythmkbkombjhaeaa
open Go.RowKit Go.Proofs.Ythmkbkombjhaeaa.Ds

/-- THE NUMBERS BEHIND A SLICE, however many -/
def Num (w : World) (B : Nat) (v : Value) (xs : List Int) : Prop :=
  ∃ a c, v = .slice a xs.length c ∧ xs.length ≤ c ∧ xs.length ≤ 9223372036854775807 ∧
    (xs ≠ [] → ∃ b o, a = some ⟨b, o, none⟩ ∧ b < B ∧ ∀ i x, xs[i]? = some x → w.cell? ⟨b, o + i, none⟩ = some (.int .i64 x))
theorem Num.keep {w w' : World} {B : Nat} {v : Value} {xs : List Int} (h : Num w B v xs) (hb : Below B w w') : Num w' B v xs := by
  obtain ⟨a, c, hv, hc, hl, hx⟩ := h
  refine ⟨a, c, hv, hc, hl, fun hne => ?_⟩
  obtain ⟨b, o, ha, hB, hcell⟩ := hx hne
  exact ⟨b, o, ha, hB, fun i x hi => (hb.cell (p := ⟨b, o + i, none⟩) hB).trans (hcell i x hi)⟩
theorem Num.at {w w' : World} {B : Nat} {v : Value} {xs : List Int} (h : Num w B v xs) (hB : B ≤ w.heap.size) (hb : Below w.heap.size w w') : Num w' B v xs := h.keep (hb.mono hB)
theorem Num.mono {w : World} {B B' : Nat} {v : Value} {xs : List Int} (h : Num w B v xs) (hB : B ≤ B') : Num w B' v xs := by
  obtain ⟨a, c, hv, hc, hl, hx⟩ := h
  refine ⟨a, c, hv, hc, hl, fun hne => ?_⟩
  obtain ⟨b, o, ha, hb, hcell⟩ := hx hne
  exact ⟨b, o, ha, by omega, hcell⟩
theorem Num.of {w : World} {B nb : Nat} {v : Value} {xs : List Int} (h : Ints w B nb v xs) : Num w B v xs := by
  obtain ⟨a, c, hv, hc, hl, hx⟩ := h
  refine ⟨a, c, hv, hc, by omega, fun hne => ?_⟩
  obtain ⟨b, o, ha, hb, _, hcell⟩ := hx hne
  exact ⟨b, o, ha, hb, hcell⟩
theorem Num.ints {w : World} {B nb : Nat} {v : Value} {xs : List Int} (h : Num w B v xs) (hl : xs.length ≤ 1073741824) (hn : B ≤ nb) : Ints w B nb v xs := by
  obtain ⟨a, c, hv, hc, _, hx⟩ := h
  refine ⟨a, c, hv, hc, hl, fun hne => ?_⟩
  obtain ⟨b, o, ha, hb, hcell⟩ := hx hne
  exact ⟨b, o, ha, hb, by omega, hcell⟩
theorem Num.get {w : World} {B : Nat} {v : Value} {xs : List Int} (h : Num w B v xs) {i : Nat} (hi : i < xs.length) : ∃ b o c x, v = .slice (some ⟨b, o, none⟩) xs.length c ∧ xs.length ≤ c ∧ b < B ∧ xs[i]? = some x ∧ w.cell? ⟨b, o + i, none⟩ = some (.int .i64 x) := by
  obtain ⟨a, c, hv, hc, _, hx⟩ := h
  obtain ⟨b, o, rfl, hb, hcell⟩ := hx (ne_of_lt hi)
  obtain ⟨x, hx⟩ := get_lt hi
  exact ⟨b, o, c, x, hv, hc, hb, hx, hcell i x hx⟩

/-! ### slices.Max -/
set_option maxHeartbeats 400000 in
theorem max_any (B : Nat) (v : Value) (xs : List Int) (w : World) (h : Num w B v xs) (hne : 1 ≤ xs.length) (r : Int) (hr : mxI xs = r) :
    Calls Try.prog 23 #[v] w fun e w' => e = .returned (.int .i64 r) ∧ w' = w := by
  have HN : Hid (Num w B v xs) := h
  have HR : Hid (mxI xs = r) := hr
  obtain ⟨b, o, c, x0, rfl, hc, hb, hx0, hc0⟩ := h.get (i := 0) (by omega)
  obtain ⟨_, _, _, _, hl, _⟩ := h
  have HX : Hid (mxI (xs.take 1) = x0) := mxI_one hx0
  clear hr hx0
  simp only [Nat.add_zero] at hc0
  go_enter Try.func23, Try.ntmps23
  go_wp2
  go_loop [3, 4] (fun m i => ∃ (k : Nat) (z : Int), 1 ≤ k ∧ k ≤ xs.length ∧ Hid (mxI (xs.take k) = z) ∧ m = .int .i64 z ∧ i = .int .i64 (k : Int)) (fun _ i => xs.length - (intOf i).toNat)
  case atStart => exact ⟨1, x0, Nat.le_refl _, hne, HX, rfl, rfl⟩
  case round =>
    obtain ⟨k, z, hk1, hk, HZ, rfl, rfl⟩ := hrel
    by_cases h1 : k < xs.length
    · obtain ⟨b', o', c', x, he, _, _, hx, hcx⟩ := HN.out.get h1
      simp only [Value.slice.injEq, Option.some.injEq, Addr.mk.injEq] at he
      obtain ⟨⟨rfl, rfl, _⟩, _, rfl⟩ := he
      have HS : Hid (mxI (xs.take (k + 1)) = max z x) := by
        show _ = _
        rw [mxI_take hk1 hx, HZ.out]
      clear hx
      go_wp2
      all_goals
        go_round
        case rel => exact ⟨k + 1, max z x, by omega, h1, HS, by first | rfl | go_num | (congr 1; omega), by go_num⟩
        case measure => simp [intOf]; omega
    · have : k = xs.length := by omega
      subst this
      have hz : z = r := by rw [← HR.out, ← HZ.out, List.take_length]
      subst hz
      clear HZ HR HX
      go_wp2
      go_ret
      exact ⟨rfl, rfl⟩

/-! ### no score -/
def badB (n : Int) : Bool := decide (n < -1073741824 ∨ 1073741824 < n)
theorem noScore_any (n : Int) (r : Bool) (hr : badB n = r) (w : World) :
    Calls Try.prog 45 #[.int .i64 n] w fun e w' => e = .returned (.bool r) ∧ w' = w := by
  have HR : Hid (badB n = r) := hr
  clear hr
  by_cases c1 : n < -1073741824
  · have : r = true := by rw [← HR.out]; simp [badB, c1]
    subst this
    clear HR
    go_enter Try.func45, Try.ntmps45
    go_wp2
    go_ret
    exact ⟨rfl, rfl⟩
  · by_cases c2 : 1073741824 < n
    · have : r = true := by rw [← HR.out]; simp [badB, c2]
      subst this
      clear HR
      go_enter Try.func45, Try.ntmps45
      go_wp2
      go_ret
      exact ⟨rfl, rfl⟩
    · have : r = false := by rw [← HR.out]; simp [badB]; omega
      subst this
      clear HR
      go_enter Try.func45, Try.ntmps45
      go_wp2
      go_ret
      exact ⟨rfl, rfl⟩
end Go.Proofs.Ythmkbkombjhaeaa
