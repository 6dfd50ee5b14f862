import Derived.Test.YtedfdbcoinfjaaaTcv
namespace Go.Proofs.Ytedfdbcoinfjaaa
open Go.RowKit Go.Proofs.Ytedfdbcoinfjaaa.Ds

set_option maxRecDepth 100000 in
set_option maxHeartbeats 2000000 in
theorem cover_ok (h t : Nat) (hh : h ≤ 10) (ht : t ≤ 2 ^ h) (w : World) : Calls Try.prog 8 #[.int .i64 (h : Int), .int .i64 (t : Int)] w fun e w' => ∃ v, e = .returned (.tuple #[v, .int .i64 0]) ∧ w'.ownsRow w.heap.size 37 2 v (cov h t).length (encP (cov h t)) ∧ Below w.heap.size w w' := by
  have kt := fun W => tall_any (h : Int) true (decide_eq_true (by omega)) W
  have kl := fun W => len_any h hh W
  obtain ⟨q, hq⟩ : ∃ q, 2 ^ h = q := ⟨_, rfl⟩
  have HQ : Hid (2 ^ h = q) := hq
  have hq4 : q ≤ 1024 := by rw [← hq]; exact pow_le (Nat.le_refl _) hh
  have htq : ¬ (t : Int) > (q : Int) := by rw [hq] at ht; omega
  have ht0 : ¬ (t : Int) < 0 := by omega
  have htq2 : decide (q < t) = false := decide_eq_false (by rw [hq] at ht; omega)
  have ht02 : decide ((t : Int) < 0) = false := decide_eq_false (by omega)
  have ht4 : t ≤ 1024 := by rw [hq] at ht; omega
  have HT : Hid (t ≤ 2 ^ h) := ht
  simp only [hq] at kl
  obtain ⟨i29, hi29, hz0, hz1, hz2⟩ := info_parts info37
  clear ht hq
  go_enter Try.func8, Try.ntmps8
  go_wp2_with fail
  refine (kt _).mono ?_
  rintro e1 w1 ⟨rfl, rfl⟩
  go_wp2_with fail
  refine (kl _).mono ?_
  rintro e2 w2 ⟨rfl, rfl⟩
  clear kt kl
  go_wp2_with fail
  go_loopw [6, 7, 25] (fun ov bv s wr => ∃ (j b : Nat) (oa : Option Addr) (oc : Nat) (l : List Sp), s = .int .i64 (j : Int) ∧ bv = .int .i64 (b : Int) ∧ ov = .slice oa l.length oc ∧ j ≤ h + 1 ∧ Hid (CvI h t j l b) ∧ b ≤ 1024 ∧ l.length ≤ 11 ∧ Hid (wr.ownsRow w2.heap.size 37 2 (.slice oa l.length oc) l.length (encP l)) ∧ Below w2.heap.size w2 wr) (fun _ _ s _ => h + 1 - (intOf s).toNat)
  case atStart => exact ⟨0, 0, none, 0, [], rfl, rfl, rfl, Nat.zero_le _, cvI_zero HT.out, by omega, by simp, ⟨rfl, .inl ⟨rfl, rfl⟩⟩, Below.refl _ _⟩
  case round =>
    obtain ⟨j, b, oa, oc, l, rfl, rfl, rfl, hj, HC, hb4, hl11, HW, hbl⟩ := hrel
    have hrs := hbl.size
    by_cases h1 : j < h + 1
    · obtain ⟨k, hk⟩ : ∃ k, h - j = k := ⟨_, rfl⟩
      have hkh : (h : Int) - (j : Int) = (k : Int) := by omega
      have kl := fun W => len_any k (by omega) W
      obtain ⟨p, hp⟩ : ∃ p, 2 ^ k = p := ⟨_, rfl⟩
      have hp4 : p ≤ 1024 := by rw [← hp]; exact pow_le (show k ≤ h by omega) hh
      simp only [hp] at kl
      have hst := cvI_step (j := j) (by omega) HC.out
      rw [hk, hp] at hst
      have HST : Hid ((b + p ≤ t → CvI h t (j + 1) (l ++ [(k, b / p)]) (b + p)) ∧ (¬ b + p ≤ t → CvI h t (j + 1) l b)) := hst
      have hln := HC.out.ln
      have z1 : (j : Int) < (h : Int) + 1 := by omega
      have hwk : IntKind.i64.wrap ((h : Int) - (j : Int)) = (k : Int) := by rw [hkh, IntKind.wrap_i64]; omega
      have hk0 : (0 : Int) ≤ (k : Int) := by omega
      have hk64 : (k : Int) ≤ 64 := by omega
      obtain ⟨a1, ha1⟩ : ∃ a1, b / p = a1 := ⟨_, rfl⟩
      have hsr : (b : Int) / 2 ^ k = (a1 : Int) := by rw [← ha1, ← hp]; exact shr_nat b k
      rw [ha1] at HST
      clear hst
      by_cases hc : b + p ≤ t
      · have hci : (b : Int) + (p : Int) ≤ (t : Int) := by omega
        have HC2 : Hid (CvI h t (j + 1) (l ++ [(k, a1)]) (b + p)) := HST.out.1 hc
        have hln2 := HC2.out.ln
        have HOW : Hid ((wr.alloc (.cells #[.int .i64 (k : Int), .int .i64 (a1 : Int)] 37)).ownsRow w2.heap.size 37 2 (.slice oa l.length oc) l.length (encP l)) := row_gb HW.out (gb_none (ba _ _)) (by simp)
        go_wp2_with fail
        refine (kl _).mono ?_
        rintro e3 w3 ⟨rfl, hw3⟩
        have hwy := hw3.symm
        subst hwy
        clear hw3
        go_wp2_with (at_builtin; refine wpList_append_own_at _ rfl _ _ 23 rfl w2.heap.size 37 i29 (.agg #[.int .i64 0, .int .i64 0]) 2 16 Try.underlying23 hi29 hz0 hz1 hz2 rfl (by decide) (.slice oa l.length oc) l.length (encP l) rfl HOW.out ⟨wr.heap.size, 0, none⟩ 1 1 [.int .i64 (k : Int), .int .i64 (a1 : Int)] rfl rfl (two_cells wr _ _ _ _ rfl) (by intro z hz; simp at hz; rcases hz with rfl | rfl <;> rfl) (by unfold maxLen; omega) (by omega) (by simp; omega) ?_)
        intro nv' w5 hown hgrow hnil hat
        have hlow : Below w2.heap.size w2 w5 := (hbl.alloc hrs _).grown hgrow (by simp; omega) (fun x e => (row_lt HW.out e).1)
        obtain ⟨na, ncc, rfl⟩ := row_slice hown
        have HRW : Hid (w5.ownsRow w2.heap.size 37 2 (.slice na (l ++ [(k, a1)]).length ncc) (l ++ [(k, a1)]).length (encP (l ++ [(k, a1)]))) := by
          rw [Hid, encP_snoc, List.length_append]; exact hown
        clear hown hgrow hnil hat
        go_wp2_with fail
        refine (kl _).mono ?_
        rintro e4 w6 ⟨rfl, hw6⟩
        have hwz := hw6.symm
        subst hwz
        clear hw6 kl
        go_wp2
        go_roundw
        case rel => exact ⟨j + 1, b + p, na, ncc, l ++ [(k, a1)], by go_num, by go_num, by simp, by omega, HC2, by omega, by simp at hln2 ⊢; omega, HRW, hlow⟩
        case measure => simp [intOf]; omega
      · have hci : ¬ (b : Int) + (p : Int) ≤ (t : Int) := by omega
        have HC2 : Hid (CvI h t (j + 1) l b) := HST.out.2 hc
        go_wp2_with fail
        refine (kl _).mono ?_
        rintro e3 w3 ⟨rfl, hw3⟩
        have hwy := hw3.symm
        subst hwy
        clear hw3 kl
        go_wp2
        go_roundw
        case rel => exact ⟨j + 1, b, oa, oc, l, by go_num, rfl, rfl, by omega, HC2, hb4, hl11, HW, hbl⟩
        case measure => simp [intOf]; omega
    · obtain rfl : j = h + 1 := by omega
      obtain rfl := cvI_end HT.out HC.out
      have z1 : ¬ ((h + 1 : Nat) : Int) < (h : Int) + 1 := by omega
      go_wp2
      refine bodyPost_ret (v := .tuple #[.slice oa (cov h t).length oc, .int .i64 0]) (by simp [results, Try.results8, go_sem]) rfl ⟨.slice oa (cov h t).length oc, rfl, HW.out, hbl⟩
end Go.Proofs.Ytedfdbcoinfjaaa
