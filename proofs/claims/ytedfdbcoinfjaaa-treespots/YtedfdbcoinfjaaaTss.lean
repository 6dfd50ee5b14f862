import Derived.Test.YtedfdbcoinfjaaaTcv
namespace Go.Proofs.Ytedfdbcoinfjaaa
open Go.RowKit Go.Proofs.Ytedfdbcoinfjaaa.Ds

set_option maxRecDepth 100000 in
set_option maxHeartbeats 2000000 in
theorem sameSpots_any (b1 b2 : Nat) (u v : Value) (l : List Sp) (w : World) (hu : w.ownsRow b1 37 2 u l.length (encP l)) (hv : w.ownsRow b2 37 2 v l.length (encP l)) (hl : l.length ≤ 1048576) :
    Calls Try.prog 7 #[u, v] w fun e w' => e = .returned (.bool true) ∧ Below w.heap.size w w' := by
  obtain ⟨ua, uc, rfl⟩ := row_slice hu
  obtain ⟨va, vc, rfl⟩ := row_slice hv
  have HU : Hid (w.ownsRow b1 37 2 (.slice ua l.length uc) l.length (encP l)) := hu
  have HV : Hid (w.ownsRow b2 37 2 (.slice va l.length vc) l.length (encP l)) := hv
  clear hu hv
  go_enter Try.func7, Try.ntmps7
  go_wp2
  go_loopw [13] (fun s wr => ∃ (i : Nat), s = .int .i64 (i : Int) ∧ i ≤ l.length ∧ Below w.heap.size w wr) (fun s _ => l.length - (intOf s).toNat)
  case atStart => exact ⟨0, rfl, Nat.zero_le _, Below.refl _ _⟩
  case round =>
    obtain ⟨i, rfl, hi, hbr⟩ := hrel
    by_cases h1 : i < l.length
    · obtain ⟨⟨sl, sa⟩, hs⟩ := get_lt h1
      have hg := encP_get hs
      have hr := row_gb HU.out (gb_none hbr) (by simp)
      have hr2 := row_gb HV.out (gb_none hbr) (by simp)
      obtain ⟨g, rfl, _, _, k0⟩ := row_cell hr hg.1
      obtain ⟨g', e', _, _, k1⟩ := row_cell hr hg.2
      simp only [Option.some.injEq, Addr.mk.injEq, and_true] at e'
      subst e'
      obtain ⟨f, rfl, _, _, k2⟩ := row_cell hr2 hg.1
      obtain ⟨f', e', _, _, k3⟩ := row_cell hr2 hg.2
      simp only [Option.some.injEq, Addr.mk.injEq, and_true] at e'
      subst e'
      clear hs hg hr hr2
      go_wp2
      go_quiet (fail)
      go_wp2
      go_roundw
      case rel => exact ⟨i + 1, by go_num, by omega, below_drewN hbr _⟩
      case measure => simp [intOf]; omega
    · obtain rfl : i = l.length := by omega
      go_wp2
      go_ret
      exact ⟨rfl, hbr⟩
end Go.Proofs.Ytedfdbcoinfjaaa
