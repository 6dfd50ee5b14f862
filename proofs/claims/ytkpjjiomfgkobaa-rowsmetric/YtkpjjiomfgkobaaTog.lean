import Derived.Test.YtkpjjiomfgkobaaRow
namespace Go.Proofs.Ytkpjjiomfgkobaa
open Go.RowKit Go.Proofs.Ytkpjjiomfgkobaa.Ds

set_option maxHeartbeats 1000000 in
theorem together_any (Bi nb : Nat) (u : Value) (xs : List Int) (w : World) (hBi : Bi ≤ w.heap.size) (hq : Ints w Bi nb u xs) (er : Int) (hr : togE 0 xs = er) :
    Calls Try.prog 31 #[u] w fun e w' => ∃ t : Nat, t ≤ 4096 ∧ e = .returned (.tuple #[.int .i64 (t : Int), .int .i64 er]) ∧ w' = w := by
  have HQ : Hid (Ints w Bi nb u xs) := hq
  have HR : Hid (togE 0 xs = er) := hr
  obtain ⟨a, c, rfl, hc, hl⟩ := hq.slice
  clear hr
  go_enter Try.func31, Try.ntmps31
  go_wp2
  go_loopw [4, 9] (fun nv s wr => ∃ (i k : Nat), nv = .int .i64 (k : Int) ∧ s = .int .i64 (i : Int) ∧ i ≤ xs.length ∧ k ≤ 4096 ∧ Hid (togE (k : Int) (xs.drop i) = er) ∧ wr = w) (fun _ s _ => xs.length - (intOf s).toNat)
  case atStart => exact ⟨0, 0, rfl, rfl, Nat.zero_le _, by omega, by simpa [Hid] using HR.out, rfl⟩
  case round =>
    obtain ⟨i, k, rfl, rfl, hi, hk, HI, rfl⟩ := hrel
    by_cases h1 : i < xs.length
    · obtain ⟨b, o, x, rfl, hb, _, hg, e1⟩ := HQ.out.get hBi (Below.refl _ _) h1
      have ST : Hid (er = if x < 0 then 3 else if 4096 - (k : Int) < x then 4 else togE ((k : Int) + x) (xs.drop (i + 1))) := HI.out.symm.trans (togE_step hg)
      clear hg HI
      by_cases hx0 : x < 0
      · obtain rfl : er = 3 := by rw [ST.out, if_pos hx0]
        go_wp2
        go_ret2
        exact ⟨0, by omega, rfl, rfl⟩
      · by_cases hx1 : 4096 - (k : Int) < x
        · obtain rfl : er = 4 := by rw [ST.out, if_neg hx0, if_pos hx1]
          go_wp2
          go_ret2
          exact ⟨0, by omega, rfl, rfl⟩
        · obtain ⟨q, rfl⟩ := Int.eq_ofNat_of_zero_le (show 0 ≤ x by omega)
          have HGN : Hid (togE (((k + q : Nat)) : Int) (xs.drop (i + 1)) = er) := by rw [Hid, ST.out, if_neg hx0, if_neg hx1, Int.natCast_add]
          go_wp2
          go_roundw
          case rel => exact ⟨i + 1, k + q, by go_num, by go_num, h1, by omega, HGN, trivial⟩
          case measure => simp [intOf]; omega
    · obtain rfl : 0 = er := by have := HI.out; rw [List.drop_eq_nil_of_le (by omega)] at this; exact this
      go_wp2
      go_ret2
      exact ⟨k, hk, rfl, rfl⟩
end Go.Proofs.Ytkpjjiomfgkobaa
