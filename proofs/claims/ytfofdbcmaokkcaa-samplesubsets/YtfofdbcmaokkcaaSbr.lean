import Derived.Test.YtfofdbcmaokkcaaRws
import Derived.Test.YtfofdbcmaokkcaaRfs
import Derived.Test.YtfofdbcmaokkcaaLim
import Derived.Test.YtfofdbcmaokkcaaRop
namespace Go.Proofs.Ytfofdbcmaokkcaa
open Go.RowKit Go.Proofs.Ytfofdbcmaokkcaa.Ds

/-- the reference's: what is wrong with a chance -/
theorem rchance_any (u d er : Int) (h : Sb.chE u d = er) (w : World) :
    Calls Try.prog 13 #[rv u d] w fun e w' => e = .returned (.int .i64 er) ∧ Below w.heap.size w w' := by
  obtain ⟨b, hb⟩ : ∃ b, Rt.rightB u d = b := ⟨_, rfl⟩
  rw [Sb.chE, hb] at h
  have HB := ba w (.cells #[.int .i64 u, .int .i64 d] 23)
  have kc := refRight_any u d b hb (w.alloc (.cells #[.int .i64 u, .int .i64 d] 23))
  clear hb
  cases b with
  | false =>
    simp at h; subst h
    go_enter Try.func13, Try.ntmps13
    go_wp2_with fail
    refine kc.mono ?_
    rintro e w1 ⟨rfl, hb1⟩
    have G1 := bt HB hb1
    go_wp2
    go_ret
    exact ⟨rfl, G1⟩
  | true =>
    simp at h
    by_cases c : d < u
    · rw [if_pos c] at h
      subst h
      go_enter Try.func13, Try.ntmps13
      go_wp2_with fail
      refine kc.mono ?_
      rintro e w1 ⟨rfl, hb1⟩
      have G1 := bt HB hb1
      obtain ⟨hc1, hf1⟩ := bcell hb1
      go_wp2
      go_ret
      exact ⟨rfl, G1⟩
    · rw [if_neg c] at h
      subst h
      go_enter Try.func13, Try.ntmps13
      go_wp2_with fail
      refine kc.mono ?_
      rintro e w1 ⟨rfl, hb1⟩
      have G1 := bt HB hb1
      obtain ⟨hc1, hf1⟩ := bcell hb1
      go_wp2
      go_ret
      exact ⟨rfl, G1⟩

/-- is a row in a subset -/
theorem in_any (s i : Nat) (hs : s ≤ 1073741824) (hi : i ≤ 4096) (b : Bool) (hb : Sb.bit s i = b) (w : World) :
    Calls Try.prog 15 #[.int .i64 (s : Int), .int .i64 (i : Int)] w fun e w' => e = .returned (.bool b) ∧ w' = w := by
  have HB : Hid (Sb.bit s i = b) := hb
  clear hb
  go_enter Try.func15, Try.ntmps15
  go_wp2
  go_loop [0, 5] (fun a c => ∃ k q : Nat, k ≤ i ∧ a = .int .i64 (q : Int) ∧ c = .int .i64 (k : Int) ∧ q ≤ 1073741824 ∧ Hid (q = s / 2 ^ k)) (fun _ c => i - (intOf c).toNat)
  case atStart => exact ⟨0, s, Nat.zero_le _, rfl, rfl, hs, by show _ = _; simp⟩
  case round =>
    obtain ⟨k, q, hk, rfl, rfl, hq, HQ⟩ := hrel
    by_cases c : k < i
    · have hd : ((q : Int)).tdiv 2 = ((q / 2 : Nat) : Int) := by rw [Int.tdiv_eq_ediv_of_nonneg (by omega)]; omega
      have HQ2 : Hid (q / 2 = s / 2 ^ (k + 1)) := by show _ = _; rw [HQ.out, Nat.div_div_eq_div_mul, Nat.pow_succ]
      go_wp2
      go_round
      case rel => exact ⟨k + 1, q / 2, c, by first | rfl | (congr 1) | (simp [hd]), by go_num, by omega, HQ2⟩
      case measure => simp [intOf]; omega
    · have : k = i := by omega
      subst this
      have hb : (decide (q % 2 = 1)) = b := by rw [← HB.out, Sb.bit, ← HQ.out]; rfl
      have hm : ((q : Int)).tmod 2 = ((q % 2 : Nat) : Int) := by rw [Int.tmod_eq_emod_of_nonneg (by omega)]; omega
      subst hb
      clear HB HQ
      go_wp2
      go_ret
      refine ⟨?_, rfl⟩
      first | rfl | (congr 2; by_cases e : q % 2 = 1 <;> simp [e] <;> omega)
end Go.Proofs.Ytfofdbcmaokkcaa
