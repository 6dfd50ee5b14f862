import Derived.Test.YtgfndaiilhbkmaaArr
namespace Go.Proofs.Ytgfndaiilhbkmaa
open Go.RowKit Go.Proofs.Ytgfndaiilhbkmaa.Ds

theorem low32 (q : Nat) (hq : q ≤ 1024) : bits .and .u64 (q : Int) 4294967295 = (q : Int) := by
  unfold bits
  simp only
  have h : (BitVec.ofInt IntKind.u64.bits (q : Int) &&& BitVec.ofInt IntKind.u64.bits 4294967295).toNat = q := by
    rw [BitVec.toNat_and]
    have h1 : (BitVec.ofInt IntKind.u64.bits (q : Int)).toNat = q := by
      rw [BitVec.toNat_ofInt]
      simp [IntKind.bits]
      omega
    have h2 : (BitVec.ofInt IntKind.u64.bits 4294967295).toNat = 2 ^ 32 - 1 := by decide
    rw [h1, h2, Nat.and_two_pow_sub_one_eq_mod]
    exact Nat.mod_eq_of_lt (by omega)
  rw [h, IntKind.wrap_u64]
  omega

set_option maxRecDepth 100000 in
set_option maxHeartbeats 1000000 in
theorem mul64_any (q : Nat) (hq : q ≤ 1024) (W : World) : Calls Try.prog 43 #[.int .u64 1, .int .u64 (q : Int)] W fun e W' => e = .returned (.tuple #[.int .u64 0, .int .u64 (q : Int)]) ∧ W' = W := by
  have b1 : bits .and .u64 1 4294967295 = 1 := by simpa using low32 1 (by omega)
  have b0 : bits .and .u64 0 4294967295 = 0 := by simpa using low32 0 (by omega)
  have bq := low32 q hq
  have q0 : (q : Int) / 4294967296 = 0 := by omega
  go_enter Try.func43, Try.ntmps43
  go_wp2
  go_ret2
  exact ⟨rfl, rfl⟩
theorem mul_any (q : Nat) (hq : q ≤ 1024) (W : World) : Calls Try.prog 40 #[.int .u64 1, .int .u64 (q : Int)] W fun e W' => e = .returned (.tuple #[.int .u64 0, .int .u64 (q : Int)]) ∧ W' = W := by
  have kc := mul64_any q hq W
  go_enter Try.func40, Try.ntmps40
  go_wp2_with fail
  refine kc.mono ?_
  rintro e1 w1 ⟨rfl, rfl⟩
  go_wp2
  go_ret2
  exact ⟨rfl, rfl⟩
end Go.Proofs.Ytgfndaiilhbkmaa
