import Derived.Test.YtkpjjiomfgkobaaPnr
namespace Go.Proofs.Ytkpjjiomfgkobaa
open Go.RowKit Go.Proofs.Ytkpjjiomfgkobaa.Ds

theorem togS_nn {xs : List Int} (h : ∀ x ∈ xs, 0 ≤ x) : 0 ≤ togS xs := by
  induction xs with
  | nil => simp [togS]
  | cons a r ih => simp only [togS]; have := h a (by simp); have := ih fun x hx => h x (by simp [hx]); omega
theorem togE_iff {xs : List Int} (h : ∀ x ∈ xs, 0 ≤ x) {a : Int} (ha : a ≤ 4096) : togE a xs = 0 ↔ a + togS xs ≤ 4096 := by
  induction xs generalizing a with
  | nil => simp [togE, togS]; omega
  | cons n r ih =>
    have h0 := h n (by simp)
    have hr : ∀ x ∈ r, 0 ≤ x := fun x hx => h x (by simp [hx])
    have hs := togS_nn hr
    simp only [togE, togS]
    rw [if_neg (by omega)]
    split
    · constructor
      · intro h; cases h
      · intro h; omega
    · rw [ih hr (by omega)]; omega
theorem togE_neg {xs : List Int} {x : Int} (h : x ∈ xs) (hx : x < 0) (a : Int) : togE a xs ≠ 0 := by
  induction xs generalizing a with
  | nil => cases h
  | cons n r ih =>
    simp only [togE]
    split
    · simp
    · split
      · simp
      · rcases List.mem_cons.1 h with rfl | h
        · omega
        · exact ih h _
theorem togS_set {xs : List Int} {i : Nat} {x : Int} (h : xs[i]? = some x) (y : Int) : togS (xs.set i y) = togS xs - x + y := by
  induction xs generalizing i with
  | nil => simp at h
  | cons n r ih =>
    cases i with
    | zero => simp at h; subst h; simp only [List.set_cons_zero, togS]; omega
    | succ i => simp at h; simp only [List.set_cons_succ, togS, ih h]; omega
theorem togS_rep (n : Nat) : togS (List.replicate n 0) = 0 := by
  induction n with
  | zero => rfl
  | succ n ih => simp [List.replicate_succ, togS, ih]
theorem celT_sum {l : List Col} (hs : Szs l) : ∀ (n : Nat) (rs : List (List Int)), rs.length = n → (∀ r ∈ rs, RowOk l r) → togS (celT l rs) = rs.length := by
  intro n
  induction n with
  | zero =>
    intro rs h _
    obtain rfl : rs = [] := List.length_eq_zero_iff.1 h
    rw [celT_nil, togS_rep]; rfl
  | succ n ih =>
    intro rs h hr
    obtain ⟨pre, x, rfl⟩ : ∃ pre x, rs = pre ++ [x] := ⟨rs.dropLast, rs.getLast (by rintro rfl; simp at h), (List.dropLast_concat_getLast _).symm⟩
    have hx := hr x (by simp)
    have hp := ih pre (by simp at h; exact h) (fun r hr' => hr r (by simp [hr']))
    rw [celT_snoc hs hx]
    obtain ⟨y, hy⟩ := get_lt (l := celT l pre) (i := plc l x) (by rw [celT_len]; exact plc_lt hx)
    rw [cadd_get hy, togS_set hy, hp]
    simp
    omega

/-- one table, if it is one -/
def neaR1 (l : List Col) (cs : List Int) (i : Nat) (d : Int) : List (List Col × List (List Int)) :=
  if froE l (cs.set i (cs.getD i 0 + d)) = 0 then [tabOf l (cs.set i (cs.getD i 0 + d))] else []
def neaRL (l : List Col) (cs : List Int) : Nat → List (List Col × List (List Int))
  | 0 => []
  | k + 1 => neaRL l cs k ++ (neaR1 l cs k (-1) ++ neaR1 l cs k 1)
theorem neaRL_len (l : List Col) (cs : List Int) (k : Nat) : (neaRL l cs k).length ≤ 2 * k := by
  induction k with
  | zero => simp [neaRL]
  | succ k ih =>
    have h : ∀ d, (neaR1 l cs k d).length ≤ 1 := fun d => by unfold neaR1; split <;> simp
    have h1 := h (-1)
    have h2 := h 1
    simp only [neaRL, List.length_append]
    omega
theorem mem_set_cases {xs : List Int} {i : Nat} {y x : Int} (h : x ∈ xs.set i y) : x ∈ xs ∨ x = y := List.mem_or_eq_of_mem_set h
theorem neaRL_eq {l : List Col} {rs : List (List Int)} (h : wroE l rs = 0) {k : Nat} (hk : k ≤ prd l) : neaRL l (celT l rs) k = (nbL (celT l rs) (decide (rs.length < 4096)) k).map (tabOf l) := by
  obtain ⟨h1, h2, h3⟩ := wroE_ok h
  obtain ⟨_, _, hs, _, _⟩ := colE_ok h1
  have hsum := celT_sum hs rs.length rs rfl h3
  have hnn : ∀ x ∈ celT l rs, 0 ≤ x := fun x hx => (celT_bd hx).1
  induction k with
  | zero => rfl
  | succ k ih =>
    obtain ⟨x, hx⟩ := get_lt (l := celT l rs) (i := k) (by rw [celT_len]; omega)
    have hxD : (celT l rs).getD k 0 = x := by rw [List.getD, hx]; rfl
    have hx0 := hnn x (List.mem_of_getElem? hx)
    have hfe : ∀ y, froE l ((celT l rs).set k y) = togE 0 ((celT l rs).set k y) := fun y => by rw [froE, if_pos h1, if_pos (by simp [celT_len])]
    simp only [neaRL, nbL, nb1, List.map_append]
    rw [ih (by omega), hxD]
    congr 1
    congr 1
    · unfold neaR1
      rw [hxD, show x + -1 = x - 1 by omega, hfe]
      by_cases hp : 0 < x
      · have : togE 0 ((celT l rs).set k (x - 1)) = 0 := by
          rw [togE_iff (fun y hy => by rcases mem_set_cases hy with h | h; · exact hnn y h
                                       · omega) (by omega), togS_set hx, hsum]
          omega
        rw [if_pos this, if_pos hp]; rfl
      · have : togE 0 ((celT l rs).set k (x - 1)) ≠ 0 := togE_neg (x := x - 1) (List.mem_iff_getElem?.2 ⟨k, by rw [List.getElem?_set_self (by rw [celT_len]; omega)]⟩) (by omega) _
        rw [if_neg this, if_neg hp]; rfl
    · unfold neaR1
      rw [hxD, hfe]
      have : togE 0 ((celT l rs).set k (x + 1)) = 0 ↔ rs.length < 4096 := by
        rw [togE_iff (fun y hy => by rcases mem_set_cases hy with h | h; · exact hnn y h
                                     · omega) (by omega), togS_set hx, hsum]
        omega
      by_cases hp : rs.length < 4096
      · rw [if_pos (this.2 hp), if_pos (decide_eq_true hp)]; rfl
      · rw [if_neg (fun h => hp (this.1 h)), if_neg (by simpa using hp)]; rfl
theorem neaT_ref {l : List Col} {rs : List (List Int)} (h : wroE l rs = 0) : neaRL l (celT l rs) (prd l) = neaT l rs := by
  rw [neaT, if_pos h, neaRL_eq h (Nat.le_refl _)]
end Go.Proofs.Ytkpjjiomfgkobaa
