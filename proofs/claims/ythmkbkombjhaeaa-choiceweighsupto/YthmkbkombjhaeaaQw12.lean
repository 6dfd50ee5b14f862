import Derived.Test.YthmkbkombjhaeaaQw11
namespace Go.Proofs.Ythmkbkombjhaeaa
open Go.RowKit Go.Proofs.Ythmkbkombjhaeaa.Ds

/-- THE NUMBERS BEHIND A SLICE, however many -/
def Num (w : World) (B : Nat) (v : Value) (xs : List Int) : Prop :=
  ∃ a c, v = .slice a xs.length c ∧ xs.length ≤ c ∧ xs.length ≤ 9223372036854775807 ∧
    (xs ≠ [] → ∃ b o, a = some ⟨b, o, none⟩ ∧ b < B ∧ ∀ i x, xs[i]? = some x → w.cell? ⟨b, o + i, none⟩ = some (.int .i64 x))
theorem Num.keep {w w' : World} {B : Nat} {v : Value} {xs : List Int} (h : Num w B v xs) (hb : Below B w w') : Num w' B v xs := by
  obtain ⟨a, c, hv, hc, hl, hx⟩ := h
  refine ⟨a, c, hv, hc, hl, fun hne => ?_⟩
  obtain ⟨b, o, ha, hB, hcell⟩ := hx hne
  exact ⟨b, o, ha, hB, fun i x hi => (hb.cell (p := ⟨b, o + i, none⟩) hB).trans (hcell i x hi)⟩
theorem Num.at {w w' : World} {B : Nat} {v : Value} {xs : List Int} (h : Num w B v xs) (hB : B ≤ w.heap.size) (hb : Below w.heap.size w w') : Num w' B v xs := h.keep (hb.mono hB)
theorem Num.mono {w : World} {B B' : Nat} {v : Value} {xs : List Int} (h : Num w B v xs) (hB : B ≤ B') : Num w B' v xs := by
  obtain ⟨a, c, hv, hc, hl, hx⟩ := h
  refine ⟨a, c, hv, hc, hl, fun hne => ?_⟩
  obtain ⟨b, o, ha, hb, hcell⟩ := hx hne
  exact ⟨b, o, ha, by omega, hcell⟩
theorem Num.of {w : World} {B nb : Nat} {v : Value} {xs : List Int} (h : Ints w B nb v xs) : Num w B v xs := by
  obtain ⟨a, c, hv, hc, hl, hx⟩ := h
  refine ⟨a, c, hv, hc, by omega, fun hne => ?_⟩
  obtain ⟨b, o, ha, hb, _, hcell⟩ := hx hne
  exact ⟨b, o, ha, hb, hcell⟩
theorem Num.ints {w : World} {B nb : Nat} {v : Value} {xs : List Int} (h : Num w B v xs) (hl : xs.length ≤ 1073741824) (hn : B ≤ nb) : Ints w B nb v xs := by
  obtain ⟨a, c, hv, hc, _, hx⟩ := h
  refine ⟨a, c, hv, hc, hl, fun hne => ?_⟩
  obtain ⟨b, o, ha, hb, hcell⟩ := hx hne
  exact ⟨b, o, ha, hb, by omega, hcell⟩
theorem Num.get {w : World} {B : Nat} {v : Value} {xs : List Int} (h : Num w B v xs) {i : Nat} (hi : i < xs.length) : ∃ b o c x, v = .slice (some ⟨b, o, none⟩) xs.length c ∧ xs.length ≤ c ∧ b < B ∧ xs[i]? = some x ∧ w.cell? ⟨b, o + i, none⟩ = some (.int .i64 x) := by
  obtain ⟨a, c, hv, hc, _, hx⟩ := h
  obtain ⟨b, o, rfl, hb, hcell⟩ := hx (ne_of_lt hi)
  obtain ⟨x, hx⟩ := get_lt hi
  exact ⟨b, o, c, x, hv, hc, hb, hx, hcell i x hx⟩

/-! ### slices.Max -/
set_option maxHeartbeats 400000 in
theorem max_any (B : Nat) (v : Value) (xs : List Int) (w : World) (h : Num w B v xs) (hne : 1 ≤ xs.length) (r : Int) (hr : mxI xs = r) :
    Calls Try.prog 23 #[v] w fun e w' => e = .returned (.int .i64 r) ∧ w' = w := by
  have HN : Hid (Num w B v xs) := h
  have HR : Hid (mxI xs = r) := hr
  obtain ⟨b, o, c, x0, rfl, hc, hb, hx0, hc0⟩ := h.get (i := 0) (by omega)
  obtain ⟨_, _, _, _, hl, _⟩ := h
  have HX : Hid (mxI (xs.take 1) = x0) := mxI_one hx0
  clear hr hx0
  simp only [Nat.add_zero] at hc0
  go_enter Try.func23, Try.ntmps23
  go_wp2
  go_loop [3, 4] (fun m i => ∃ (k : Nat) (z : Int), 1 ≤ k ∧ k ≤ xs.length ∧ Hid (mxI (xs.take k) = z) ∧ m = .int .i64 z ∧ i = .int .i64 (k : Int)) (fun _ i => xs.length - (intOf i).toNat)
  case atStart => exact ⟨1, x0, Nat.le_refl _, hne, HX, rfl, rfl⟩
  case round =>
    obtain ⟨k, z, hk1, hk, HZ, rfl, rfl⟩ := hrel
    by_cases h1 : k < xs.length
    · obtain ⟨b', o', c', x, he, _, _, hx, hcx⟩ := HN.out.get h1
      simp only [Value.slice.injEq, Option.some.injEq, Addr.mk.injEq] at he
      obtain ⟨⟨rfl, rfl, _⟩, _, rfl⟩ := he
      have HS : Hid (mxI (xs.take (k + 1)) = max z x) := by
        show _ = _
        rw [mxI_take hk1 hx, HZ.out]
      clear hx
      go_wp2
      all_goals
        go_round
        case rel => exact ⟨k + 1, max z x, by omega, h1, HS, by first | rfl | go_num | (congr 1; omega), by go_num⟩
        case measure => simp [intOf]; omega
    · have : k = xs.length := by omega
      subst this
      have hz : z = r := by rw [← HR.out, ← HZ.out, List.take_length]
      subst hz
      clear HZ HR HX
      go_wp2
      go_ret
      exact ⟨rfl, rfl⟩

/-! ### no score -/
def badB (n : Int) : Bool := decide (n < -1073741824 ∨ 1073741824 < n)
theorem noScore_any (n : Int) (r : Bool) (hr : badB n = r) (w : World) :
    Calls Try.prog 45 #[.int .i64 n] w fun e w' => e = .returned (.bool r) ∧ w' = w := by
  have HR : Hid (badB n = r) := hr
  clear hr
  by_cases c1 : n < -1073741824
  · have : r = true := by rw [← HR.out]; simp [badB, c1]
    subst this
    clear HR
    go_enter Try.func45, Try.ntmps45
    go_wp2
    go_ret
    exact ⟨rfl, rfl⟩
  · by_cases c2 : 1073741824 < n
    · have : r = true := by rw [← HR.out]; simp [badB, c2]
      subst this
      clear HR
      go_enter Try.func45, Try.ntmps45
      go_wp2
      go_ret
      exact ⟨rfl, rfl⟩
    · have : r = false := by rw [← HR.out]; simp [badB]; omega
      subst this
      clear HR
      go_enter Try.func45, Try.ntmps45
      go_wp2
      go_ret
      exact ⟨rfl, rfl⟩
end Go.Proofs.Ythmkbkombjhaeaa
