import Derived.Test.YtjnclbhpdaonhaaCmp
import Derived.Test.YtjnclbhpdaonhaaDmt
namespace Go.Proofs.Ytjnclbhpdaonhaa
open Go.RowKit Go.Proofs.Ytjnclbhpdaonhaa.Ds

/-- a bit -/
def okB (b : Int) : Bool := decide (b = 0 ∨ b = 1)
theorem bad_all (l : List Int) : badB l = !l.all okB := by
  rw [badB, List.not_all_eq_any_not]
  congr 1
  funext b
  simp [okB]

theorem bitN_any (n : Int) (w : World) : Calls Try.prog 32 #[.int .i64 n] w fun e w' => e = .returned (.bool (!okB n)) ∧ w' = w := by
  unfold okB
  by_cases h1 : n = 0
  · subst h1
    rw [decide_eq_true (by omega)]
    go_enter Try.func32, Try.ntmps32
    go_wp2
    go_ret
    exact ⟨rfl, rfl⟩
  · have h1' : (n == 0) = false := by simpa using h1
    by_cases h2 : n = 1
    · subst h2
      rw [decide_eq_true (by omega)]
      go_enter Try.func32, Try.ntmps32
      go_wp2
      go_ret
      exact ⟨rfl, rfl⟩
    · have h2' : (n == 1) = false := by simpa using h2
      rw [decide_eq_false (by omega)]
      go_enter Try.func32, Try.ntmps32
      go_wp2
      go_ret
      exact ⟨by show Ending.returned (.bool (n != 0 && n != 1)) = _; simp [h1, h2], rfl⟩

set_option maxHeartbeats 400000 in
theorem indexB_any (B nb : Nat) (v : Value) (x : List Int) (w : World) (hx : Ints w B nb v x) :
    Calls Try.prog 39 #[v, .func (.func 32) #[] #[]] w fun e w' => ∃ r : Int, e = .returned (.int .i64 r) ∧ (decide (0 ≤ r) = !x.all okB) ∧ w' = w := by
  obtain ⟨a, c, rfl, hc, hl, hxx⟩ := hx
  have HX : Hid (x ≠ [] → ∃ b o, a = some ⟨b, o, none⟩ ∧ b < B ∧ b ≠ nb ∧ ∀ i z, x[i]? = some z → w.cell? ⟨b, o + i, none⟩ = some (.int .i64 z)) := hxx
  clear hxx
  go_enter Try.func39, Try.ntmps39
  go_wp2
  go_loop [8] (fun s => ∃ i : Nat, s = .int .i64 (i : Int) ∧ i ≤ x.length ∧ (x.take i).all okB = true) (fun s => x.length - (intOf s).toNat)
  case atStart => exact ⟨0, rfl, Nat.zero_le _, by simp⟩
  case round =>
    obtain ⟨i, rfl, hix, hall⟩ := hrel
    have HA : Hid ((x.take i).all okB = true) := hall
    clear hall
    by_cases h1 : i < x.length
    · obtain ⟨b, o, rfl, hb, hn, hcell⟩ := HX.out (ne_of_lt h1)
      obtain ⟨z, hz⟩ := get_lt h1
      have cx1 := hcell i z hz
      have HZ : Hid (x[i]? = some z) := hz
      clear hcell HX hz
      cases hk : okB z with
      | true =>
        have hk' : Hid (okB z = true) := hk
        clear hk
        have kc := bitN_any z w
        rw [hk'.out] at kc
        go_wp2_with (go_at_call 32; refine kc.mono ?_; rintro e w' ⟨rfl, rfl⟩)
        go_round
        case rel => exact ⟨i + 1, by go_num, h1, by rw [all_take HZ.out, HA.out, hk'.out]; rfl⟩
        case measure => simp [intOf]; omega
      | false =>
        have hk' : Hid (okB z = false) := hk
        clear hk
        have kc := bitN_any z w
        rw [hk'.out] at kc
        go_wp2_with (go_at_call 32; refine kc.mono ?_; rintro e w' ⟨rfl, rfl⟩)
        go_ret
        exact ⟨_, rfl, by rw [all_false HZ.out hk'.out]; simp, rfl⟩
    · have hi : i = x.length := by omega
      have hA : x.all okB = true := by have := HA.out; rw [hi, List.take_length] at this; exact this
      have HA2 : Hid (x.all okB = true) := hA
      clear hA HX
      go_wp2
      go_ret
      exact ⟨_, rfl, by rw [HA2.out]; simp, rfl⟩

set_option maxHeartbeats 400000 in
theorem containsB_any (B nb : Nat) (v : Value) (x : List Int) (w : World) (hx : Ints w B nb v x) (r : Bool) (hr : x.all okB = r) :
    Calls Try.prog 31 #[v, .func (.func 32) #[] #[]] w fun e w' => e = .returned (.bool (!r)) ∧ w' = w := by
  subst hr
  have HX : Hid (Ints w B nb v x) := hx
  obtain ⟨a, c, rfl, _⟩ := hx
  go_enter Try.func31, Try.ntmps31
  go_wp2_with (go_at_call 39; refine (indexB_any B nb _ x _ HX.out).mono ?_; rintro e w' ⟨r, rfl, hr, rfl⟩)
  go_ret
  exact ⟨ret_b (by rw [← hr]), rfl⟩

end Go.Proofs.Ytjnclbhpdaonhaa
