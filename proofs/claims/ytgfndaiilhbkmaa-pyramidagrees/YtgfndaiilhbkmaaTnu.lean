import Derived.Test.YtgfndaiilhbkmaaTba
namespace Go.Proofs.Ytgfndaiilhbkmaa
open Go.RowKit

/-- THE NUMBERS BEHIND A SLICE, however many -/
def Num (w : World) (B : Nat) (v : Value) (xs : List Int) : Prop :=
  ∃ a c, v = .slice a xs.length c ∧ xs.length ≤ c ∧ xs.length ≤ 9223372036854775807 ∧
    (xs ≠ [] → ∃ b o, a = some ⟨b, o, none⟩ ∧ b < B ∧ ∀ i x, xs[i]? = some x → w.cell? ⟨b, o + i, none⟩ = some (.int .i64 x))
theorem Num.keep {w w' : World} {B : Nat} {v : Value} {xs : List Int} (h : Num w B v xs) (hb : Below B w w') : Num w' B v xs := by
  obtain ⟨a, c, hv, hc, hl, hx⟩ := h
  refine ⟨a, c, hv, hc, hl, fun hne => ?_⟩
  obtain ⟨b, o, ha, hB, hcell⟩ := hx hne
  exact ⟨b, o, ha, hB, fun i x hi => (hb.cell (p := ⟨b, o + i, none⟩) hB).trans (hcell i x hi)⟩
theorem Num.at {w w' : World} {B : Nat} {v : Value} {xs : List Int} (h : Num w B v xs) (hB : B ≤ w.heap.size) (hb : Below w.heap.size w w') : Num w' B v xs := h.keep (hb.mono hB)
theorem Num.mono {w : World} {B B' : Nat} {v : Value} {xs : List Int} (h : Num w B v xs) (hB : B ≤ B') : Num w B' v xs := by
  obtain ⟨a, c, hv, hc, hl, hx⟩ := h
  refine ⟨a, c, hv, hc, hl, fun hne => ?_⟩
  obtain ⟨b, o, ha, hb, hcell⟩ := hx hne
  exact ⟨b, o, ha, by omega, hcell⟩
theorem Num.slice {w : World} {B : Nat} {v : Value} {xs : List Int} (h : Num w B v xs) : ∃ a c, v = .slice a xs.length c ∧ xs.length ≤ c ∧ xs.length ≤ 9223372036854775807 := by
  obtain ⟨a, c, hv, hc, hl, _⟩ := h
  exact ⟨a, c, hv, hc, hl⟩
theorem Num.get {w : World} {B : Nat} {v : Value} {xs : List Int} (h : Num w B v xs) {i : Nat} (hi : i < xs.length) : ∃ b o c x, v = .slice (some ⟨b, o, none⟩) xs.length c ∧ xs.length ≤ c ∧ b < B ∧ xs[i]? = some x ∧ w.cell? ⟨b, o + i, none⟩ = some (.int .i64 x) := by
  obtain ⟨a, c, hv, hc, _, hx⟩ := h
  obtain ⟨b, o, rfl, hb, hcell⟩ := hx (ne_of_lt hi)
  obtain ⟨x, hx⟩ := get_lt hi
  exact ⟨b, o, c, x, hv, hc, hb, hx, hcell i x hx⟩
theorem ret_b {a b : Bool} (h : a = b) : Ending.returned (.bool a) = .returned (.bool b) := by rw [h]

/-! ### numbers beyond the bounds -/
def badB (n : Int) : Bool := decide (n < -65536 ∨ 65536 < n)
theorem beyond_any (n : Int) (r : Bool) (hr : badB n = r) (w : World) :
    Calls Try.prog 29 #[.int .i64 n] w fun e w' => e = .returned (.bool r) ∧ w' = w := by
  have HR : Hid (badB n = r) := hr
  clear hr
  by_cases c1 : n < -65536
  · have : r = true := by rw [← HR.out]; simp [badB, c1]
    subst this
    clear HR
    go_enter Try.func29, Try.ntmps29
    go_wp2
    go_ret
    exact ⟨rfl, rfl⟩
  · by_cases c2 : 65536 < n
    · have : r = true := by rw [← HR.out]; simp [badB, c2]
      subst this
      clear HR
      go_enter Try.func29, Try.ntmps29
      go_wp2
      go_ret
      exact ⟨rfl, rfl⟩
    · have : r = false := by rw [← HR.out]; simp [badB]; omega
      subst this
      clear HR
      go_enter Try.func29, Try.ntmps29
      go_wp2
      go_ret
      exact ⟨rfl, rfl⟩
/-- none of those ahead of k is bad -/
def Non (xs : List Int) (k : Nat) : Prop := (xs.take k).any badB = false
theorem Non.step {xs : List Int} {k : Nat} {x : Int} (h : Non xs k) (hx : xs[k]? = some x) (hb : badB x = false) : Non xs (k + 1) := by
  unfold Non at *
  rw [List.take_add_one, hx, List.any_append, h]
  simp [hb]
theorem Non.hit {xs : List Int} {k : Nat} {x : Int} (hx : xs[k]? = some x) (hb : badB x = true) : xs.any badB = true :=
  List.any_eq_true.2 ⟨x, List.mem_of_getElem? hx, hb⟩
theorem Non.all {xs : List Int} {k : Nat} (h : Non xs k) (hk : xs.length ≤ k) : xs.any badB = false := by
  unfold Non at h
  rwa [List.take_of_length_le hk] at h

set_option maxHeartbeats 400000 in
theorem indexBad_any (B : Nat) (v : Value) (xs : List Int) (w : World) (h : Num w B v xs) (r : Bool) (hr : xs.any badB = r) :
    Calls Try.prog 39 #[v, .func (.func 29) #[] #[]] w fun e w' => ∃ k : Int, e = .returned (.int .i64 k) ∧ decide (0 ≤ k) = r ∧ k < 9223372036854775807 ∧ w' = w := by
  have HN : Hid (Num w B v xs) := h
  have HR : Hid (xs.any badB = r) := hr
  obtain ⟨a, c, rfl, hc, hl, _⟩ := h
  clear hr
  go_enter Try.func39, Try.ntmps39
  go_wp2
  go_loop [8] (fun i => ∃ k : Nat, k ≤ xs.length ∧ Hid (Non xs k) ∧ i = .int .i64 (k : Int)) (fun i => xs.length - (intOf i).toNat)
  case atStart => exact ⟨0, Nat.zero_le _, rfl, rfl⟩
  case round =>
    obtain ⟨k, hk, HK, rfl⟩ := hrel
    by_cases h1 : k < xs.length
    · obtain ⟨b, o, c', x, he, _, _, hx, hcx⟩ := HN.out.get h1
      simp only [Value.slice.injEq] at he
      obtain ⟨rfl, _, rfl⟩ := he
      obtain ⟨q, hq⟩ : ∃ q, badB x = q := ⟨_, rfl⟩
      have kc := beyond_any x q hq w
      cases q with
      | true =>
        have hr : r = true := by rw [← HR.out]; exact Non.hit hx hq
        subst hr
        clear hx hq HR HK
        go_wp2_with fail
        refine kc.mono ?_
        rintro e w1 ⟨rfl, rfl⟩
        clear kc
        go_wp2
        go_ret
        exact ⟨k, rfl, by simp, by omega, rfl⟩
      | false =>
        have HS : Hid (Non xs (k + 1)) := HK.out.step hx hq
        clear hx hq HK
        go_wp2_with fail
        refine kc.mono ?_
        rintro e w1 ⟨rfl, rfl⟩
        clear kc
        go_wp2
        go_round
        case rel => exact ⟨k + 1, h1, HS, by go_num⟩
        case measure => simp [intOf]; omega
    · have hr : r = false := by rw [← HR.out]; exact HK.out.all (by omega)
      subst hr
      clear HR HK
      go_wp2
      go_ret
      exact ⟨-1, rfl, by simp, by omega, rfl⟩
theorem containsBad_any (B : Nat) (v : Value) (xs : List Int) (w : World) (h : Num w B v xs) (r : Bool) (hr : xs.any badB = r) :
    Calls Try.prog 28 #[v, .func (.func 29) #[] #[]] w fun e w' => e = .returned (.bool r) ∧ w' = w := by
  have kc := indexBad_any B v xs w h r hr
  obtain ⟨a, c, rfl, hc, hl, _⟩ := h
  clear hr
  go_enter Try.func28, Try.ntmps28
  go_wp2_with fail
  refine kc.mono ?_
  rintro e w1 ⟨k, rfl, hk, hk2, rfl⟩
  clear kc
  subst hk
  by_cases c : 0 ≤ k
  · go_wp2
    go_ret
    exact ⟨ret_b (by simp [c]), rfl⟩
  · go_wp2
    go_ret
    exact ⟨ret_b (by simp), rfl⟩
/-- what is wrong with numbers of which there must be so many -/
def wrE (xs : List Int) (n : Nat) : Int := if xs.length = n then (if xs.any badB then 3 else 0) else 8
theorem wrong_any (B : Nat) (v : Value) (xs : List Int) (n : Nat) (w : World) (h : Num w B v xs) (r : Int) (hr : wrE xs n = r) :
    Calls Try.prog 17 #[v, .int .i64 (n : Int)] w fun e w' => e = .returned (.int .i64 r) ∧ w' = w := by
  obtain ⟨q, hq⟩ : ∃ q, xs.any badB = q := ⟨_, rfl⟩
  have kc := containsBad_any B v xs w h q hq
  have HR : Hid (wrE xs n = r) := hr
  have HQ : Hid (xs.any badB = q) := hq
  obtain ⟨a, c, rfl, hc, hl, _⟩ := h
  clear hr hq
  by_cases h1 : xs.length = n
  · have z1 : ((xs.length : Int) != (n : Int)) = false := by simp; omega
    have z2 : (xs.length : Int) = (n : Int) := by omega
    have HR2 : Hid ((if q = true then (3 : Int) else 0) = r) := by have := HR.out; rwa [wrE, if_pos h1, HQ.out] at this
    clear HR HQ h1
    cases q with
    | true =>
      obtain rfl : 3 = r := HR2.out
      go_enter Try.func17, Try.ntmps17
      go_wp2_with fail
      refine kc.mono ?_
      rintro e w1 ⟨rfl, rfl⟩
      go_wp2
      go_ret
      exact ⟨rfl, rfl⟩
    | false =>
      obtain rfl : 0 = r := HR2.out
      go_enter Try.func17, Try.ntmps17
      go_wp2_with fail
      refine kc.mono ?_
      rintro e w1 ⟨rfl, rfl⟩
      go_wp2
      go_ret
      exact ⟨rfl, rfl⟩
  · have z1 : ((xs.length : Int) != (n : Int)) = true := by simp; omega
    have z2 : ¬ (xs.length : Int) = (n : Int) := by omega
    obtain rfl : 8 = r := by rw [← HR.out, wrE, if_neg h1]
    clear HR HQ h1
    go_enter Try.func17, Try.ntmps17
    go_wp2
    go_ret
    exact ⟨rfl, rfl⟩
end Go.Proofs.Ytgfndaiilhbkmaa
