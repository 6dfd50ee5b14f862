import Derived.Test.YthmkbkombjhaeaaQw29
namespace Go.Proofs.Ythmkbkombjhaeaa
open Go.RowKit Go.Proofs.Ythmkbkombjhaeaa.Ds

/-- the reference's product, up to a limit -/
theorem rprod_any (a b : Int) (ha : Fac a) (hb : Fac b) (w : World) :
    Calls Try.prog 28 #[.int .i64 a, .int .i64 b] w fun e w' => e = .returned (.int .i64 (lim (a * b))) ∧ w' = w := by
  obtain ⟨a0, a1⟩ := ha
  obtain ⟨b0, b1⟩ := hb
  have p0 : 0 ≤ a * b := Int.mul_nonneg (by omega) (by omega)
  have p1 : a * b ≤ 1073741825 * 1073741825 := Int.mul_le_mul a1 b1 (by omega) (by omega)
  obtain ⟨P, hP⟩ : ∃ P, a * b = P := ⟨_, rfl⟩
  by_cases c1 : 1073741824 < a
  · have hl : lim P = 1073741825 := by
      rw [lim_over]
      have := Int.mul_le_mul (show (1073741825 : Int) ≤ a by omega) b0 (by omega) (by omega)
      omega
    rw [hP, hl]
    go_enter Try.func28, Try.ntmps28
    go_wp2
    go_ret
    exact ⟨rfl, rfl⟩
  · by_cases c2 : 1073741824 < b
    · have hl : lim P = 1073741825 := by
        rw [lim_over]
        have := Int.mul_le_mul a0 (show (1073741825 : Int) ≤ b by omega) (by omega) (by omega)
        omega
      rw [hP, hl]
      go_enter Try.func28, Try.ntmps28
      go_wp2
      go_ret
      exact ⟨rfl, rfl⟩
    · by_cases c3 : 1073741824 < P
      · have hl : lim P = 1073741825 := lim_over (by omega)
        rw [hP, hl]
        rw [hP] at p0 p1
        go_enter Try.func28, Try.ntmps28
        go_wp2
        go_ret
        exact ⟨rfl, rfl⟩
      · have hl : lim P = P := lim_of (by omega)
        rw [hP, hl]
        rw [hP] at p0 p1
        go_enter Try.func28, Try.ntmps28
        go_wp2
        go_ret
        exact ⟨rfl, rfl⟩
end Go.Proofs.Ythmkbkombjhaeaa
