import Derived.Test.YtedfdbcoinfjaaaTco
namespace Go.Proofs.Ytedfdbcoinfjaaa
open Go.RowKit Go.Proofs.Ytedfdbcoinfjaaa.Ds

theorem rcover_bad (h t : Int) (hb : ¬ (0 ≤ h ∧ h ≤ 10) ∨ (∃ k : Nat, h = k ∧ k ≤ 10 ∧ (t < 0 ∨ ((2 ^ k : Nat) : Int) < t))) (w : World) : Calls Try.prog 9 #[.int .i64 h, .int .i64 t] w fun e w' => e = .returned (.tuple #[.slice none 0 0, .int .i64 3]) ∧ w' = w := by
  rcases hb with hb | ⟨k, rfl, hk, hb⟩
  · by_cases h0 : h < 0
    · go_enter Try.func9, Try.ntmps9
      go_wp2
      go_ret2
      exact ⟨rfl, rfl⟩
    · have h1 : h > 10 := by omega
      go_enter Try.func9, Try.ntmps9
      go_wp2
      go_ret2
      exact ⟨rfl, rfl⟩
  · have kl := fun W => long_any k (by omega) W
    have g0 : ¬ (k : Int) < 0 := by omega
    have g1 : ¬ (k : Int) > 10 := by omega
    have g2 : ¬ 10 < k := by omega
    by_cases h0 : t < 0
    · go_enter Try.func9, Try.ntmps9
      go_wp2
      go_ret2
      exact ⟨rfl, rfl⟩
    · have h1 : t > ((2 ^ k : Nat) : Int) := by rcases hb with h | h; exact absurd h h0; exact h
      obtain ⟨q, hq⟩ : ∃ q, 2 ^ k = q := ⟨_, rfl⟩
      simp only [hq] at kl h1
      go_enter Try.func9, Try.ntmps9
      go_wp2_with fail
      refine (kl _).mono ?_
      rintro e2 w2 ⟨rfl, rfl⟩
      go_wp2
      go_ret2
      exact ⟨rfl, rfl⟩


set_option maxRecDepth 100000 in
set_option maxHeartbeats 4000000 in
theorem rcover_ok (h t : Nat) (hh : h ≤ 10) (ht : t ≤ 2 ^ h) (w : World) : Calls Try.prog 9 #[.int .i64 (h : Int), .int .i64 (t : Int)] w fun e w' => ∃ v, e = .returned (.tuple #[v, .int .i64 0]) ∧ w'.ownsRow w.heap.size 37 2 v (cov h t).length (encP (cov h t)) ∧ Below w.heap.size w w' := by
  have kl := fun W => long_any h (by omega) W
  obtain ⟨q, hq⟩ : ∃ q, 2 ^ h = q := ⟨_, rfl⟩
  have HT : Hid (t ≤ 2 ^ h) := ht
  have hq4 : q ≤ 1024 := by rw [← hq]; exact pow_le (Nat.le_refl _) hh
  rw [hq] at ht
  have g0 : ¬ (h : Int) < 0 := by omega
  have g1 : ¬ (h : Int) > 10 := by omega
  have g2 : ¬ 10 < h := by omega
  have htq : ¬ (t : Int) > (q : Int) := by omega
  have ht0 : ¬ (t : Int) < 0 := by omega
  have htq2 : decide (q < t) = false := decide_eq_false (by omega)
  have ht02 : decide ((t : Int) < 0) = false := decide_eq_false (by omega)
  have ht4 : t ≤ 1024 := by omega
  simp only [hq] at kl
  obtain ⟨i29, hi29, hz0, hz1, hz2⟩ := info_parts info37
  clear hq ht
  go_enter Try.func9, Try.ntmps9
  go_wp2_with fail
  refine (kl _).mono ?_
  rintro e2 w2 ⟨rfl, rfl⟩
  clear kl
  go_wp2_with fail
  go_loopw [6, 7] (fun ov bv wr => ∃ (b : Nat) (oa : Option Addr) (oc : Nat) (l : List Sp), bv = .int .i64 (b : Int) ∧ ov = .slice oa l.length oc ∧ b ≤ t ∧ l.length ≤ 1024 ∧ Hid (Gre h t l ∧ endT l = b) ∧ Hid (wr.ownsRow w2.heap.size 37 2 (.slice oa l.length oc) l.length (encP l)) ∧ Below w2.heap.size w2 wr) (fun _ bv _ => t - (intOf bv).toNat)
  case atStart => exact ⟨0, none, 0, [], rfl, rfl, Nat.zero_le _, by simp, ⟨Gre.nil _ _, rfl⟩, ⟨rfl, .inl ⟨rfl, rfl⟩⟩, Below.refl _ _⟩
  case round =>
    obtain ⟨b, oa, oc, l, rfl, rfl, hbt, hl4, HG, HW, hbl⟩ := hrel
    have hrs := hbl.size
    by_cases h1 : b < t
    · go_wp2_with fail
      go_loopw [8] (fun lv wr2 => ∃ (k : Nat), lv = .int .i64 (k : Int) ∧ k ≤ h ∧ Hid (∀ k', k < k' → k' ≤ h → 2 ^ k' ∣ b → ¬ b + 2 ^ k' ≤ t) ∧ wr2 = wr) (fun lv _ => (intOf lv).toNat)
      case atStart => exact ⟨h, rfl, Nat.le_refl _, fun k' h1 h2 => by omega, rfl⟩
      case round =>
        obtain ⟨k, rfl, hk, HK, hwr⟩ := hrel
        have hwy := hwr.symm
        subst hwy
        clear hwr
        have kl := fun W => long_any k (by omega) W
        obtain ⟨p, hp⟩ : ∃ p, 2 ^ k = p := ⟨_, rfl⟩
        have hp0 : 0 < p := by rw [← hp]; exact Nat.two_pow_pos _
        have hp4 : p ≤ 1024 := by rw [← hp]; exact pow_le hk hh
        have HP : Hid (2 ^ k = p) := hp
        simp only [hp] at kl
        have hpi : (p : Int) ≠ 0 := by omega
        obtain ⟨m, hm⟩ : ∃ m, b % p = m := ⟨_, rfl⟩
        have hmp : m < p := by rw [← hm]; exact Nat.mod_lt _ hp0
        have hmi : (b : Int) % (p : Int) = (m : Int) := by rw [← hm]; exact (Int.natCast_emod _ _).symm
        have HM : Hid (b % p = m) := hm
        clear hp hm
        by_cases c1 : m = 0
        · subst c1
          have hdv : p ∣ b := Nat.dvd_of_mod_eq_zero HM.out
          by_cases c2 : b + p ≤ t
          · have hc2 : ¬ (b : Int) + (p : Int) > (t : Int) := by omega
            have hc3 : ¬ t < b + p := by omega
            obtain ⟨a1, ha1⟩ : ∃ a1, b / p = a1 := ⟨_, rfl⟩
            have hai : (b : Int) / (p : Int) = (a1 : Int) := by rw [← ha1]; exact (Int.natCast_ediv _ _).symm
            have ha4 : a1 ≤ 1024 := by rw [← ha1]; exact Nat.le_trans (Nat.div_le_self _ _) (by omega)
            have HG2 : Hid (Gre h t (l ++ [(k, a1)]) ∧ endT (l ++ [(k, a1)]) = b + p) := by
              have hg := HG.out.1.snoc HG.out.2 (k := k) (by rw [HP.out]; exact hdv) hk (by rw [HP.out]; exact c2) HK.out
              rw [HP.out, ha1] at hg
              exact ⟨hg, by rw [end_snoc, HG.out.2, HP.out]⟩
            have hl5 : (l ++ [(k, a1)]).length ≤ 1024 := by
              have := len_end (l ++ [(k, a1)])
              rw [HG2.out.2] at this
              omega
            have HOW : Hid ((wr.alloc (.cells #[.int .i64 (k : Int), .int .i64 (a1 : Int)] 37)).ownsRow w2.heap.size 37 2 (.slice oa l.length oc) l.length (encP l)) := row_gb HW.out (gb_none (ba _ _)) (by simp)
            clear ha1 hdv
            go_wp2_with fail
            refine (kl _).mono ?_
            rintro e3 w3 ⟨rfl, hw3⟩
            have hwy := hw3.symm
            subst hwy
            clear hw3
            go_wp2_with fail
            refine (kl _).mono ?_
            rintro e3 w3 ⟨rfl, hw3⟩
            have hwy := hw3.symm
            subst hwy
            clear hw3
            go_wp2_with fail
            refine (kl _).mono ?_
            rintro e3 w3 ⟨rfl, hw3⟩
            have hwy := hw3.symm
            subst hwy
            clear hw3
            go_wp2_with (at_builtin; refine wpList_append_own_at _ rfl _ _ 23 rfl w2.heap.size 37 i29 (.agg #[.int .i64 0, .int .i64 0]) 2 16 Try.underlying23 hi29 hz0 hz1 hz2 rfl (by decide) (.slice oa l.length oc) l.length (encP l) rfl HOW.out ⟨wr.heap.size, 0, none⟩ 1 1 [.int .i64 (k : Int), .int .i64 (a1 : Int)] rfl rfl (two_cells wr _ _ _ _ rfl) (by intro z hz; simp at hz; rcases hz with rfl | rfl <;> rfl) (by unfold maxLen; omega) (by omega) (by simp; omega) ?_)
            intro nv' w5 hown hgrow hnil hat
            have hlow : Below w2.heap.size w2 w5 := (hbl.alloc hrs _).grown hgrow (by simp; omega) (fun x e => (row_lt HW.out e).1)
            obtain ⟨na, ncc, rfl⟩ := row_slice hown
            have HRW : Hid (w5.ownsRow w2.heap.size 37 2 (.slice na (l ++ [(k, a1)]).length ncc) (l ++ [(k, a1)]).length (encP (l ++ [(k, a1)]))) := by
              rw [Hid, encP_snoc, List.length_append]; exact hown
            clear hown hgrow hnil hat
            go_wp2_with fail
            refine (kl _).mono ?_
            rintro e4 w6 ⟨rfl, hw6⟩
            have hwz := hw6.symm
            subst hwz
            clear hw6 kl
            go_wp2
            go_roundw
            case rel => exact ⟨b + p, na, ncc, l ++ [(k, a1)], by go_num, by simp, by omega, hl5, HG2, HRW, hlow⟩
            case measure => simp [intOf]; omega
          · have hc2 : (b : Int) + (p : Int) > (t : Int) := by omega
            have hk0 : 0 < k := by
              rcases Nat.eq_zero_or_pos k with h | h
              · exfalso
                subst h
                have := HP.out
                simp at this
                omega
              · exact h
            have HK2 : Hid (∀ k', k - 1 < k' → k' ≤ h → 2 ^ k' ∣ b → ¬ b + 2 ^ k' ≤ t) := by
              intro k' h2 h3 h4 h5
              by_cases h6 : k = k'
              · subst h6; rw [HP.out] at h5; exact c2 h5
              · exact HK.out k' (by omega) h3 h4 h5
            clear hdv
            go_wp2_with fail
            refine (kl _).mono ?_
            rintro e3 w3 ⟨rfl, hw3⟩
            have hwy := hw3.symm
            subst hwy
            clear hw3
            go_wp2_with fail
            refine (kl _).mono ?_
            rintro e3 w3 ⟨rfl, hw3⟩
            have hwy := hw3.symm
            subst hwy
            clear hw3
            go_wp2
            go_roundw
            case rel => exact ⟨k - 1, by go_num, by omega, HK2, by first | rfl | trivial⟩
            case measure => simp [intOf]; omega
        · have hmn : ((m : Int) != 0) = true := by simp; omega
          have hmn2 : ¬ (m : Int) = 0 := by omega
          have hndv : ¬ p ∣ b := fun hd => c1 (by rw [← HM.out]; exact Nat.mod_eq_zero_of_dvd hd)
          have hk0 : 0 < k := by
            rcases Nat.eq_zero_or_pos k with h | h
            · exfalso
              subst h
              have := HP.out
              simp at this
              omega
            · exact h
          have HK2 : Hid (∀ k', k - 1 < k' → k' ≤ h → 2 ^ k' ∣ b → ¬ b + 2 ^ k' ≤ t) := by
            intro k' h2 h3 h4 h5
            by_cases h6 : k = k'
            · subst h6; rw [HP.out] at h4; exact hndv h4
            · exact HK.out k' (by omega) h3 h4 h5
          clear hndv
          go_wp2_with fail
          refine (kl _).mono ?_
          rintro e3 w3 ⟨rfl, hw3⟩
          have hwy := hw3.symm
          subst hwy
          clear hw3
          go_wp2
          go_roundw
          case rel => exact ⟨k - 1, by go_num, by omega, HK2, by first | rfl | trivial⟩
          case measure => simp [intOf]; omega
    · obtain rfl : b = t := by omega
      obtain rfl := cov_of HT.out HG.out.1 HG.out.2
      go_wp2
      refine bodyPost_ret (v := .tuple #[.slice oa (cov h b).length oc, .int .i64 0]) (by simp [results, Try.results9, go_sem]) rfl ⟨.slice oa (cov h b).length oc, rfl, HW.out, hbl⟩
end Go.Proofs.Ytedfdbcoinfjaaa
