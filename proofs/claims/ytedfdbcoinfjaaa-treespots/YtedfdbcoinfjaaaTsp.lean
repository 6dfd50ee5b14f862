import Derived.Test.YtedfdbcoinfjaaaTco
namespace Go.Proofs.Ytedfdbcoinfjaaa
open Go.RowKit Go.Proofs.Ytedfdbcoinfjaaa.Ds

/-- the nodes of a step, the lowest ones first -/
def spT (t n : Nat) : List Sp := (List.range n).map fun k => (k, t / 2 ^ k)
theorem spT_len (t n : Nat) : (spT t n).length = n := by simp [spT]
theorem spT_succ (t n : Nat) : spT t (n + 1) = spT t n ++ [(n, t / 2 ^ n)] := by simp [spT, List.range_succ]

theorem spots_bad (h t : Int) (hb : ¬ (0 ≤ h ∧ h ≤ 10) ∨ (∃ k : Nat, h = k ∧ k ≤ 10 ∧ (t < 0 ∨ ((2 ^ k : Nat) : Int) ≤ t))) (w : World) : Calls Try.prog 5 #[.int .i64 h, .int .i64 t] w fun e w' => e = .returned (.tuple #[.slice none 0 0, .int .i64 3]) ∧ w' = w := by
  rcases hb with hb | ⟨k, rfl, hk, hb⟩
  · have kt := fun W => tall_any h false (decide_eq_false hb) W
    go_enter Try.func5, Try.ntmps5
    go_wp2_with fail
    refine (kt _).mono ?_
    rintro e1 w1 ⟨rfl, rfl⟩
    go_wp2
    go_ret2
    exact ⟨rfl, rfl⟩
  · have kt := fun W => tall_any (k : Int) true (decide_eq_true (by omega)) W
    have kl := fun W => len_any k hk W
    by_cases h0 : t < 0
    · go_enter Try.func5, Try.ntmps5
      go_wp2_with fail
      refine (kt _).mono ?_
      rintro e1 w1 ⟨rfl, rfl⟩
      go_wp2
      go_ret2
      exact ⟨rfl, rfl⟩
    · have h1 : t ≥ ((2 ^ k : Nat) : Int) := by rcases hb with h | h; exact absurd h h0; exact h
      obtain ⟨q, hq⟩ : ∃ q, 2 ^ k = q := ⟨_, rfl⟩
      simp only [hq] at kl h1
      go_enter Try.func5, Try.ntmps5
      go_wp2_with fail
      refine (kt _).mono ?_
      rintro e1 w1 ⟨rfl, rfl⟩
      go_wp2_with fail
      refine (kl _).mono ?_
      rintro e2 w2 ⟨rfl, rfl⟩
      go_wp2
      go_ret2
      exact ⟨rfl, rfl⟩

set_option maxRecDepth 100000 in
set_option maxHeartbeats 2000000 in
theorem spots_ok (h t : Nat) (hh : h ≤ 10) (ht : t < 2 ^ h) (w : World) : Calls Try.prog 5 #[.int .i64 (h : Int), .int .i64 (t : Int)] w fun e w' => ∃ v, e = .returned (.tuple #[v, .int .i64 0]) ∧ w'.ownsRow w.heap.size 37 2 v (h + 1) (encP (spT t (h + 1))) ∧ Below w.heap.size w w' := by
  have kt := fun W => tall_any (h : Int) true (decide_eq_true (by omega)) W
  have kl := fun W => len_any h hh W
  obtain ⟨q, hq⟩ : ∃ q, 2 ^ h = q := ⟨_, rfl⟩
  have hq4 : q ≤ 1024 := by rw [← hq]; exact pow_le (Nat.le_refl _) hh
  rw [hq] at ht
  have ht0 : ¬ (t : Int) < 0 := by omega
  have htq : ¬ (t : Int) ≥ (q : Int) := by omega
  have htq2 : decide (q ≤ t) = false := decide_eq_false (by omega)
  have ht02 : decide ((t : Int) < 0) = false := decide_eq_false (by omega)
  have ht4 : t ≤ 1024 := by omega
  simp only [hq] at kl
  obtain ⟨i29, hi29, hz0, hz1, hz2⟩ := info_parts info37
  clear hq ht
  go_enter Try.func5, Try.ntmps5
  go_wp2_with fail
  refine (kt _).mono ?_
  rintro e1 w1 ⟨rfl, rfl⟩
  go_wp2_with fail
  refine (kl _).mono ?_
  rintro e2 w2 ⟨rfl, rfl⟩
  clear kt kl
  go_wp2_with fail
  go_loopw [6, 23] (fun ov s wr => ∃ (j : Nat) (oa : Option Addr) (oc : Nat), s = .int .i64 (j : Int) ∧ ov = .slice oa j oc ∧ j ≤ h + 1 ∧ Hid (wr.ownsRow w2.heap.size 37 2 (.slice oa j oc) j (encP (spT t j))) ∧ Below w2.heap.size w2 wr) (fun _ s _ => h + 1 - (intOf s).toNat)
  case atStart => exact ⟨0, none, 0, rfl, rfl, Nat.zero_le _, ⟨rfl, .inl ⟨rfl, rfl⟩⟩, Below.refl _ _⟩
  case round =>
    obtain ⟨j, oa, oc, rfl, rfl, hj, HW, hbl⟩ := hrel
    have hrs := hbl.size
    by_cases h1 : j < h + 1
    · obtain ⟨a1, ha1⟩ : ∃ a1, t / 2 ^ j = a1 := ⟨_, rfl⟩
      have hsr : (t : Int) / 2 ^ j = (a1 : Int) := by rw [← ha1]; exact shr_nat t j
      have HA1 : Hid (t / 2 ^ j = a1) := ha1
      have z1 : (j : Int) < (h : Int) + 1 := by omega
      have hk0 : (0 : Int) ≤ (j : Int) := by omega
      have hk64 : (j : Int) ≤ 64 := by omega
      have HOW : Hid ((wr.alloc (.cells #[.int .i64 (j : Int), .int .i64 (a1 : Int)] 37)).ownsRow w2.heap.size 37 2 (.slice oa j oc) j (encP (spT t j))) := row_gb HW.out (gb_none (ba _ _)) (by simp)
      clear ha1
      go_wp2_with (at_builtin; refine wpList_append_own_at _ rfl _ _ 23 rfl w2.heap.size 37 i29 (.agg #[.int .i64 0, .int .i64 0]) 2 16 Try.underlying23 hi29 hz0 hz1 hz2 rfl (by decide) (.slice oa j oc) j (encP (spT t j)) rfl HOW.out ⟨wr.heap.size, 0, none⟩ 1 1 [.int .i64 (j : Int), .int .i64 (a1 : Int)] rfl rfl (two_cells wr _ _ _ _ rfl) (by intro z hz; simp at hz; rcases hz with rfl | rfl <;> rfl) (by unfold maxLen; omega) (by omega) (by simp; omega) ?_)
      intro nv' w5 hown hgrow hnil hat
      have hlow : Below w2.heap.size w2 w5 := (hbl.alloc hrs _).grown hgrow (by simp; omega) (fun x e => (row_lt HW.out e).1)
      obtain ⟨na, ncc, rfl⟩ := row_slice hown
      have HRW : Hid (w5.ownsRow w2.heap.size 37 2 (.slice na (j + 1) ncc) (j + 1) (encP (spT t (j + 1)))) := by
        rw [Hid, spT_succ, HA1.out, encP_snoc]; exact hown
      clear hown hgrow hnil hat
      go_wp2
      go_roundw
      case rel => exact ⟨j + 1, na, ncc, by go_num, rfl, by omega, HRW, hlow⟩
      case measure => simp [intOf]; omega
    · obtain rfl : j = h + 1 := by omega
      have z1 : ¬ ((h + 1 : Nat) : Int) < (h : Int) + 1 := by omega
      go_wp2
      refine bodyPost_ret (v := .tuple #[.slice oa (h + 1) oc, .int .i64 0]) (by simp [results, Try.results5, go_sem]) rfl ⟨.slice oa (h + 1) oc, rfl, HW.out, hbl⟩
end Go.Proofs.Ytedfdbcoinfjaaa
