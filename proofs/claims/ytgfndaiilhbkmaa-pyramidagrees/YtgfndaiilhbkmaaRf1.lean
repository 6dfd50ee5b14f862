import Derived.Test.YtgfndaiilhbkmaaLin
namespace Go.Proofs.Ytgfndaiilhbkmaa
open Go.RowKit Go.Proofs.Ytgfndaiilhbkmaa.Ds

theorem power_any (w k p : Nat) (hw : 1 ≤ w) (hw2 : w ≤ 16) (hk : k ≤ 62) (hp : w ^ k = p) (hp2 : p ≤ 288230376151711744) (W : World) : Calls Try.prog 16 #[.int .i64 (w : Int), .int .i64 (k : Int)] W fun e W' => e = .returned (.int .i64 (p : Int)) ∧ W' = W := by
  have HP : Hid (w ^ k = p) := hp
  clear hp
  go_enter Try.func16, Try.ntmps16
  go_wp2
  go_loopw [5, 6] (fun x s wr => ∃ (i q : Nat), s = .int .i64 (i : Int) ∧ x = .int .i64 (q : Int) ∧ i ≤ k ∧ Hid (w ^ i = q) ∧ wr = W) (fun _ s _ => k - (intOf s).toNat)
  case atStart => exact ⟨0, 1, rfl, rfl, Nat.zero_le _, by simp [Hid], rfl⟩
  case round =>
    obtain ⟨i, q, rfl, rfl, hi, HQ, hwr⟩ := hrel
    have hwy := hwr.symm
    subst hwy
    clear hwr
    by_cases c1 : i < k
    · obtain ⟨r, hr⟩ : ∃ r, q * w = r := ⟨_, rfl⟩
      have hq2 : q ≤ 288230376151711744 := by
        rw [← HQ.out]
        have : w ^ i ≤ w ^ k := Nat.pow_le_pow_right hw (by omega)
        rw [HP.out] at this; omega
      have hri : (q : Int) * (w : Int) = (r : Int) := by rw [← hr]; simp
      have hrb : r ≤ 4611686018427387904 := by rw [← hr]; exact Nat.le_trans (Nat.mul_le_mul hq2 hw2) (by decide)
      have hwr : IntKind.i64.wrap ((q : Int) * (w : Int)) = (r : Int) := by rw [hri, IntKind.wrap_i64]; omega
      have HR : Hid (w ^ (i + 1) = r) := by rw [Hid, Nat.pow_succ, HQ.out, hr]
      have z1 : (i : Int) < (k : Int) := by omega
      clear hr
      go_wp2
      go_roundw
      case rel => exact ⟨i + 1, r, by go_num, by first | rfl | go_num, by omega, HR, by first | rfl | trivial⟩
      case measure => simp [intOf]; omega
    · obtain rfl : i = k := by omega
      have z1 : ¬ (i : Int) < (i : Int) := by omega
      go_wp2
      go_ret
      exact ⟨by rw [← HP.out, HQ.out]; rfl, rfl⟩
theorem pow_bd {w k : Nat} (hw2 : w ≤ 16) (hk : k ≤ 14) : w ^ k ≤ 288230376151711744 :=
  Nat.le_trans (Nat.pow_le_pow_left hw2 k) (Nat.le_trans (Nat.pow_le_pow_right (by decide) hk) (by decide))

set_option maxHeartbeats 1000000 in
theorem rsize_ok (w H : Nat) (hw : 2 ≤ w) (hw2 : w ≤ 16) (hH : H ≤ 10) (W : World) (n : Nat) (er : Int) (hn : szN w H = n) (he : szE w H = er) : Calls Try.prog 7 #[.int .i64 (w : Int), .int .i64 (H : Int)] W fun e W' => e = .returned (.tuple #[.int .i64 (n : Int), .int .i64 er]) ∧ W' = W := by
  have HE : Hid (szN w H = n ∧ szE w H = er) := ⟨hn, he⟩
  have h1 : ¬ (w : Int) < 2 := by omega
  have h2 : ¬ (w : Int) > 16 := by omega
  have h3 : ¬ (H : Int) < 0 := by omega
  have h4 : ¬ (H : Int) > 10 := by omega
  have g1 : ¬ w < 2 := by omega
  have g2 : ¬ 16 < w := by omega
  have g4 : ¬ 10 < H := by omega
  clear hn he
  go_enter Try.func7, Try.ntmps7
  go_wp2_with fail
  go_loopw [6, 7] (fun x s wr => ∃ (l m : Nat), s = .int .i64 (l : Int) ∧ x = .int .i64 (m : Int) ∧ l ≤ H + 1 ∧ Hid (inr w l = m) ∧ m ≤ 1024 ∧ wr = W) (fun _ s _ => H + 1 - (intOf s).toNat)
  case atStart => exact ⟨0, 0, rfl, rfl, Nat.zero_le _, inr_zero w, by omega, rfl⟩
  case round =>
    obtain ⟨l, m, rfl, rfl, hl, HM, hm, hwr⟩ := hrel
    have hwy := hwr.symm
    subst hwy
    clear hwr
    by_cases c1 : l ≤ H
    · obtain ⟨p, hp⟩ : ∃ p, w ^ l = p := ⟨_, rfl⟩
      have hpb : p ≤ 288230376151711744 := by rw [← hp]; exact pow_bd hw2 (by omega)
      have kp := fun V => power_any w l p (by omega) hw2 (by omega) hp hpb V
      have HN : Hid (nds w l = m + p) := by rw [Hid, ← inr_add w l, HM.out, hp]
      have HM2 : Hid (inr w (l + 1) = m + p) := by rw [Hid, inr_succ, HN.out]
      have z1 : (l : Int) ≤ (H : Int) := by omega
      clear hp
      by_cases c2 : m + p > 1024
      · have c3 : (m : Int) + (p : Int) > 1024 := by omega
        have HX : Hid (n = 0 ∧ er = 4) := by
          have hN : ¬ nds w H ≤ 1024 := by
            have := nds_mono w c1
            rw [HN.out] at this; omega
          have h5 := szE_much hw hw2 hH hN
          refine ⟨?_, by rw [← HE.out.2, h5]⟩
          rw [← HE.out.1, szN, h5]; rfl
        obtain ⟨rfl, rfl⟩ := HX.out
        go_wp2_with fail
        refine (kp _).mono ?_
        rintro e1 w1 ⟨rfl, hw1⟩
        have hwy := hw1.symm
        subst hwy
        clear kp hw1
        go_wp2
        go_ret2
        exact ⟨rfl, rfl⟩
      · have c3 : ¬ (m : Int) + (p : Int) > 1024 := by omega
        go_wp2_with fail
        refine (kp _).mono ?_
        rintro e1 w1 ⟨rfl, hw1⟩
        have hwy := hw1.symm
        subst hwy
        clear kp hw1
        go_wp2
        go_roundw
        case rel => exact ⟨l + 1, m + p, by go_num, by go_num, by omega, HM2, by omega, by first | rfl | trivial⟩
        case measure => simp [intOf]; omega
    · obtain rfl : l = H + 1 := by omega
      have z1 : ¬ ((H + 1 : Nat) : Int) ≤ (H : Int) := by omega
      have hN : nds w H = m := by rw [← inr_succ, HM.out]
      have h5 := szE_ok hw hw2 hH (by omega : nds w H ≤ 1024)
      have HX : Hid (n = m ∧ er = 0) := ⟨by rw [← HE.out.1, szN, if_pos h5]; simpa using hN, by rw [← HE.out.2, h5]⟩
      obtain ⟨rfl, rfl⟩ := HX.out
      clear hN h5
      go_wp2
      go_ret2
      exact ⟨rfl, rfl⟩
theorem rsize_any (a b : Int) (W : World) (n : Nat) (er : Int) (hn : szN a b = n) (he : szE a b = er) : Calls Try.prog 7 #[.int .i64 a, .int .i64 b] W fun e W' => e = .returned (.tuple #[.int .i64 (n : Int), .int .i64 er]) ∧ W' = W := by
  rcases sz_cases a b with ⟨h1, h2⟩ | ⟨w, H, rfl, rfl, hw, hw2, hH, _⟩
  · obtain rfl : 3 = er := by rw [← he, h1]
    obtain rfl : 0 = n := by rw [← hn, szN, h1]; rfl
    clear hn he h1
    by_cases c1 : a < 2
    · clear h2
      go_enter Try.func7, Try.ntmps7
      go_wp2
      go_ret2
      exact ⟨rfl, rfl⟩
    · by_cases c2 : a > 16
      · clear h2
        go_enter Try.func7, Try.ntmps7
        go_wp2
        go_ret2
        exact ⟨rfl, rfl⟩
      · by_cases c3 : b < 0
        · clear h2
          go_enter Try.func7, Try.ntmps7
          go_wp2
          go_ret2
          exact ⟨rfl, rfl⟩
        · have c4 : b > 10 := by omega
          clear h2
          go_enter Try.func7, Try.ntmps7
          go_wp2
          go_ret2
          exact ⟨rfl, rfl⟩
  · exact rsize_ok w H hw hw2 hH W n er hn he

theorem level_any (w i : Nat) (hw : 2 ≤ w) (hw2 : w ≤ 16) (hi : i ≤ 1024) (l : Nat) (hl : lev w i = l) (W : World) : Calls Try.prog 26 #[.int .i64 (w : Int), .int .i64 (i : Int)] W fun e W' => e = .returned (.int .i64 (l : Int)) ∧ W' = W := by
  have HL : Hid (lev w i = l) := hl
  have wn : ¬ (w : Int) = 0 := by omega
  have wn2 : ¬ w = 0 := by omega
  clear hl
  go_enter Try.func26, Try.ntmps26
  go_wp2
  go_loopw [1, 5] (fun iv lv wr => ∃ (j k : Nat), iv = .int .i64 (j : Int) ∧ lv = .int .i64 (k : Int) ∧ j ≤ 1024 ∧ k + j ≤ 1024 ∧ Hid (k + lev w j = l) ∧ wr = W) (fun iv _ _ => (intOf iv).toNat)
  case atStart => exact ⟨i, 0, rfl, rfl, hi, by omega, by rw [Hid, HL.out]; omega, rfl⟩
  case round =>
    obtain ⟨j, k, rfl, rfl, hj, hk, HK, hwr⟩ := hrel
    have hwy := hwr.symm
    subst hwy
    clear hwr
    cases j with
    | zero =>
      have HK2 : Hid (k = l) := by have := HK.out; rw [lev_zero] at this; exact this
      obtain rfl := HK2.out
      go_wp2
      go_ret
      exact ⟨rfl, rfl⟩
    | succ j =>
      obtain ⟨q, hq⟩ : ∃ q, j / w = q := ⟨_, rfl⟩
      have hqj : q ≤ j := by rw [← hq]; exact Nat.div_le_self _ _
      have hqi : (j : Int) / (w : Int) = (q : Int) := by rw [← hq]; exact (Int.natCast_ediv _ _).symm
      have HK2 : Hid (k + 1 + lev w q = l) := by have := HK.out; rw [lev_succ, hq] at this; rw [Hid]; omega
      have z1 : ((j + 1 : Nat) : Int) > 0 := by omega
      have z2 : ((j + 1 : Nat) : Int) - 1 = (j : Int) := by omega
      clear hq
      go_wp2
      go_roundw
      case rel => exact ⟨q, k + 1, by first | rfl | go_num, by go_num, by omega, by omega, HK2, by first | rfl | trivial⟩
      case measure => simp [intOf]; omega

set_option maxHeartbeats 1000000 in
theorem small_any (B : Nat) (v : Value) (xs : List Int) (W : World) (h : Num W B v xs) (r : Bool) (hr : (!xs.any badB) = r) : Calls Try.prog 19 #[v] W fun e W' => e = .returned (.bool r) ∧ W' = W := by
  have HN : Hid (Num W B v xs) := h
  have HR : Hid ((!xs.any badB) = r) := hr
  obtain ⟨a, c, rfl, hc, hl, _⟩ := h
  clear hr
  go_enter Try.func19, Try.ntmps19
  go_wp2
  go_loopw [7] (fun i wr => ∃ k : Nat, k ≤ xs.length ∧ Hid (Non xs k) ∧ i = .int .i64 (k : Int) ∧ wr = W) (fun i _ => xs.length - (intOf i).toNat)
  case atStart => exact ⟨0, Nat.zero_le _, rfl, rfl, rfl⟩
  case round =>
    obtain ⟨k, hk, HK, rfl, hwr⟩ := hrel
    have hwy := hwr.symm
    subst hwy
    clear hwr
    by_cases h1 : k < xs.length
    · obtain ⟨b, o, c', x, he, _, _, hx, hcx⟩ := HN.out.get h1
      simp only [Value.slice.injEq] at he
      obtain ⟨rfl, -, rfl⟩ := he
      have z1 : (k : Int) < (xs.length : Int) := by omega
      by_cases x1 : x > 65536
      · have HF : Hid (r = false) := by rw [Hid, ← HR.out, Non.hit hx (by simp [badB, x1])]; rfl
        obtain rfl := HF.out
        clear hx HR HK
        go_wp2
        go_ret
        exact ⟨rfl, rfl⟩
      · by_cases x2 : x < -65536
        · have HF : Hid (r = false) := by rw [Hid, ← HR.out, Non.hit hx (by simp [badB, x2])]; rfl
          obtain rfl := HF.out
          clear hx HR HK
          go_wp2
          go_ret
          exact ⟨rfl, rfl⟩
        · have HS : Hid (Non xs (k + 1)) := HK.out.step hx (by simp [badB]; omega)
          clear hx HK
          go_wp2
          go_roundw
          case rel => exact ⟨k + 1, h1, HS, by go_num, by first | rfl | trivial⟩
          case measure => simp [intOf]; omega
    · have HF : Hid (r = true) := by rw [Hid, ← HR.out, HK.out.all (by omega)]; rfl
      obtain rfl := HF.out
      clear HR HK
      go_wp2
      go_ret
      exact ⟨rfl, rfl⟩
end Go.Proofs.Ytgfndaiilhbkmaa
