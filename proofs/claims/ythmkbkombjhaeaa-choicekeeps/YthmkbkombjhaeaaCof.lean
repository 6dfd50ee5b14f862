import Derived.Test.YthmkbkombjhaeaaNum
namespace Go.Proofs.Ythmkbkombjhaeaa
open Go.RowKit Go.Proofs.Ythmkbkombjhaeaa.Ds

/-- none of those ahead of k is bad -/
def Non (xs : List Int) (k : Nat) : Prop := (xs.take k).any badB = false
theorem Non.step {xs : List Int} {k : Nat} {x : Int} (h : Non xs k) (hx : xs[k]? = some x) (hb : badB x = false) : Non xs (k + 1) := by
  unfold Non at *
  rw [List.take_add_one, hx, List.any_append, h]
  simp [hb]
theorem Non.hit {xs : List Int} {k : Nat} {x : Int} (hx : xs[k]? = some x) (hb : badB x = true) : xs.any badB = true :=
  List.any_eq_true.2 ⟨x, List.mem_of_getElem? hx, hb⟩
theorem Non.all {xs : List Int} {k : Nat} (h : Non xs k) (hk : xs.length ≤ k) : xs.any badB = false := by
  unfold Non at h
  rwa [List.take_of_length_le hk] at h

set_option maxHeartbeats 400000 in
theorem indexBad_any (B : Nat) (v : Value) (xs : List Int) (w : World) (h : Num w B v xs) (r : Bool) (hr : xs.any badB = r) :
    Calls Try.prog 60 #[v, .func (.func 45) #[] #[]] w fun e w' => ∃ k : Int, e = .returned (.int .i64 k) ∧ decide (0 ≤ k) = r ∧ k < 9223372036854775807 ∧ w' = w := by
  have HN : Hid (Num w B v xs) := h
  have HR : Hid (xs.any badB = r) := hr
  obtain ⟨a, c, rfl, hc, hl, _⟩ := h
  clear hr
  go_enter Try.func60, Try.ntmps60
  go_wp2
  go_loop [8] (fun i => ∃ k : Nat, k ≤ xs.length ∧ Hid (Non xs k) ∧ i = .int .i64 (k : Int)) (fun i => xs.length - (intOf i).toNat)
  case atStart => exact ⟨0, Nat.zero_le _, rfl, rfl⟩
  case round =>
    obtain ⟨k, hk, HK, rfl⟩ := hrel
    by_cases h1 : k < xs.length
    · obtain ⟨b, o, c', x, he, _, _, hx, hcx⟩ := HN.out.get h1
      simp only [Value.slice.injEq] at he
      obtain ⟨rfl, _, rfl⟩ := he
      obtain ⟨q, hq⟩ : ∃ q, badB x = q := ⟨_, rfl⟩
      have kc := noScore_any x q hq w
      cases q with
      | true =>
        have hr : r = true := by rw [← HR.out]; exact Non.hit hx hq
        subst hr
        clear hx hq HR HK
        go_wp2_with fail
        refine kc.mono ?_
        rintro e w1 ⟨rfl, rfl⟩
        clear kc
        go_wp2
        go_ret
        exact ⟨k, rfl, by simp, by omega, rfl⟩
      | false =>
        have HS : Hid (Non xs (k + 1)) := HK.out.step hx hq
        clear hx hq HK
        go_wp2_with fail
        refine kc.mono ?_
        rintro e w1 ⟨rfl, rfl⟩
        clear kc
        go_wp2
        go_round
        case rel => exact ⟨k + 1, h1, HS, by go_num⟩
        case measure => simp [intOf]; omega
    · have hr : r = false := by rw [← HR.out]; exact HK.out.all (by omega)
      subst hr
      clear HR HK
      go_wp2
      go_ret
      exact ⟨-1, rfl, by simp, by omega, rfl⟩
theorem containsBad_any (B : Nat) (v : Value) (xs : List Int) (w : World) (h : Num w B v xs) (r : Bool) (hr : xs.any badB = r) :
    Calls Try.prog 44 #[v, .func (.func 45) #[] #[]] w fun e w' => e = .returned (.bool r) ∧ w' = w := by
  have kc := indexBad_any B v xs w h r hr
  obtain ⟨a, c, rfl, hc, hl, _⟩ := h
  clear hr
  go_enter Try.func44, Try.ntmps44
  go_wp2_with fail
  refine kc.mono ?_
  rintro e w1 ⟨k, rfl, hk, hk2, rfl⟩
  clear kc
  subst hk
  by_cases c : 0 ≤ k
  · go_wp2
    go_ret
    exact ⟨ret_b (by simp [c]), rfl⟩
  · go_wp2
    go_ret
    exact ⟨ret_b (by simp), rfl⟩
end Go.Proofs.Ythmkbkombjhaeaa
