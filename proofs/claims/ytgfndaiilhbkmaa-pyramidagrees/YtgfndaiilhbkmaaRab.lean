import Derived.Test.YtgfndaiilhbkmaaRsm
import Derived.Test.YtgfndaiilhbkmaaAgr
namespace Go.Proofs.Ytgfndaiilhbkmaa
open Go.RowKit Go.Proofs.Ytgfndaiilhbkmaa.Ds

theorem prd_lin {w H k : Nat} (hw : 2 ≤ w) (hk : k ≤ H) : prd w k ≤ lin w H := by
  have h1 := prd_mono hw hk
  have h2 : 1 ≤ w ^ H := Nat.pow_pos (by omega)
  have h3 : 1 * prd w H ≤ w ^ H * prd w H := Nat.mul_le_mul_right _ h2
  rw [lin]; omega

set_option maxRecDepth 100000 in
set_option maxHeartbeats 4000000 in
/-- too much -/
theorem ragree_much (w H n q B : Nat) (v : Value) (xs : List Int) (hw : 2 ≤ w) (hw2 : w ≤ 16) (hH : H ≤ 10) (hn : nds w H = n) (hn2 : n ≤ 1024) (hq : w ^ H = q) (hln : 1073741824 < lin w H) (W : World) (hx : Num W B v xs) (he : wrE xs n = 0) :
    Calls Try.prog 12 #[.int .i64 (w : Int), .int .i64 (H : Int), v] W fun e W' => e = .returned (.tuple #[.slice none 0 0, .int .i64 0, .int .i64 4]) ∧ Below W.heap.size W W' := by
  have HX : Hid (Num W B v xs) := hx
  have hxl := (wrE_zero he).1
  have HH : Hid (nds w H = n ∧ w ^ H = q ∧ 1073741824 < lin w H) := ⟨hn, hq, hln⟩
  obtain ⟨va, vc, rfl, hvc, hvl⟩ := hx.slice
  have h5 := szE_ok hw hw2 hH (by omega : nds w H ≤ 1024)
  have ks := rsize_any w H W n 0 (by rw [szN, if_pos h5]; simpa using hn) h5
  have hq2 : q ≤ 1024 := by rw [← hq]; exact Nat.le_trans (pow_le_nds w H) (by rw [hn]; exact hn2)
  have km := small_any B (.slice va xs.length vc) xs W HX.out true (small_of he)
  have kp := fun V => power_any w H q (by omega) hw2 (by omega) hq (by omega) V
  rw [hxl] at km HX hvc hvl ⊢
  have z1 : ((n : Int) != (n : Int)) = false := by simp
  clear hx hn hq he h5 hxl hln
  go_enter Try.func12, Try.ntmps12
  go_wp2_with fail
  refine ks.mono ?_
  rintro e1 w1 ⟨rfl, hw1⟩
  have hwy := hw1.symm
  subst hwy
  clear ks hw1
  go_wp2_with fail
  refine km.mono ?_
  rintro e3 w3 ⟨rfl, hw3⟩
  have hwy := hw3.symm
  subst hwy
  clear km hw3
  go_wp2_with fail
  go_loopw [11, 12] (fun dv s wr => ∃ (k d : Nat), s = .int .i64 ((k : Int) + 2) ∧ dv = .int .i64 (d : Int) ∧ k ≤ H ∧ Hid (prd w k = d) ∧ d ≤ 1073741824 ∧ wr = W) (fun _ s _ => H + 2 - (intOf s).toNat)
  case atStart => exact ⟨0, 1, rfl, rfl, Nat.zero_le _, rfl, by omega, rfl⟩
  case round =>
    obtain ⟨k, d, rfl, rfl, hk, HD, hd, hwr⟩ := hrel
    have hwy := hwr.symm
    subst hwy
    clear hwr
    by_cases c1 : k < H
    · obtain ⟨p, hp⟩ : ∃ p, w ^ (k + 2) = p := ⟨_, rfl⟩
      have hpb : p ≤ 16384 := by
        have h1 : w ^ (k + 1) ≤ w ^ H := Nat.pow_le_pow_right (by omega) (by omega)
        rw [HH.out.2.1] at h1
        rw [← hp, Nat.pow_succ]
        exact Nat.le_trans (Nat.mul_le_mul (Nat.le_trans h1 hq2) hw2) (by decide)
      have hp4 : 4 ≤ p := by rw [← hp]; exact pow_big hw k
      have kw := fun V => power_any w (k + 2) p (by omega) hw2 (by omega) hp (by omega) V
      have e2 : ((k + 2 : Nat) : Int) = (k : Int) + 2 := by simp
      rw [e2] at kw
      obtain ⟨r, hr⟩ : ∃ r, d * (p - 1) = r := ⟨_, rfl⟩
      have hri : (d : Int) * ((p : Int) - 1) = (r : Int) := by rw [← hr, Int.natCast_mul, Int.natCast_sub (by omega)]; rfl
      have hrb : r ≤ 17592186044416 := by rw [← hr]; exact Nat.le_trans (Nat.mul_le_mul hd (show p - 1 ≤ 16384 by omega)) (by decide)
      have hwr : IntKind.i64.wrap ((d : Int) * ((p : Int) - 1)) = (r : Int) := by rw [hri, IntKind.wrap_i64]; omega
      have HR : Hid (prd w (k + 1) = r) := by rw [Hid, prd, HD.out, hp, hr]
      have z3 : (k : Int) + 2 ≤ (H : Int) + 1 := by omega
      clear hp hr e2
      by_cases c2 : r > 1073741824
      · have c3 : (r : Int) > 1073741824 := by omega
        go_wp2_with fail
        refine (kw _).mono ?_
        rintro e4 w4 ⟨rfl, hw4⟩
        have hwy := hw4.symm
        subst hwy
        clear kw hw4
        go_wp2
        exact bodyPost_ret (v := .tuple #[.slice none 0 0, .int .i64 0, .int .i64 4]) (by simp [results, Try.results12, go_sem]) rfl ⟨rfl, Below.refl _ _⟩
      · have c3 : ¬ (r : Int) > 1073741824 := by omega
        go_wp2_with fail
        refine (kw _).mono ?_
        rintro e4 w4 ⟨rfl, hw4⟩
        have hwy := hw4.symm
        subst hwy
        clear kw hw4
        go_wp2
        go_roundw
        case rel => exact ⟨k + 1, r, by go_num, by first | rfl | go_num, by omega, HR, by omega, by first | rfl | trivial⟩
        case measure => simp [intOf]; omega
    · obtain rfl : k = H := by omega
      have z3 : ¬ (k : Int) + 2 ≤ (k : Int) + 1 := by omega
      obtain ⟨r, hr⟩ : ∃ r, d * q = r := ⟨_, rfl⟩
      have hri : (d : Int) * (q : Int) = (r : Int) := by rw [← hr]; simp
      have hrb : r ≤ 1099511627776 := by rw [← hr]; exact Nat.le_trans (Nat.mul_le_mul hd hq2) (by decide)
      have hwr : IntKind.i64.wrap ((d : Int) * (q : Int)) = (r : Int) := by rw [hri, IntKind.wrap_i64]; omega
      have hrl : 1073741824 < r := by
        have := HH.out.2.2
        rw [lin, HH.out.2.1, HD.out, Nat.mul_comm, hr] at this
        exact this
      have c3 : (r : Int) > 1073741824 := by omega
      clear hr hrl
      go_wp2_with fail
      refine (kp _).mono ?_
      rintro e4 w4 ⟨rfl, hw4⟩
      have hwy := hw4.symm
      subst hwy
      clear kp hw4
      go_wp2
      exact bodyPost_ret (v := .tuple #[.slice none 0 0, .int .i64 0, .int .i64 4]) (by simp [results, Try.results12, go_sem]) rfl ⟨rfl, Below.refl _ _⟩

set_option maxRecDepth 100000 in
set_option maxHeartbeats 1000000 in
theorem ragree_bad (a b : Int) (B : Nat) (v : Value) (xs : List Int) (W : World) (hx : Num W B v xs) (er : Int) (he : agE a b xs = er) (hne : er ≠ 0) :
    Calls Try.prog 12 #[.int .i64 a, .int .i64 b, v] W fun e W' => e = .returned (.tuple #[.slice none 0 0, .int .i64 0, .int .i64 er]) ∧ Below W.heap.size W W' := by
  have HX : Hid (Num W B v xs) := hx
  have HE : Hid (agE a b xs = er) := he
  obtain ⟨n, hn⟩ : ∃ n, szN a b = n := ⟨_, rfl⟩
  have n1 : (er == 0) = false := by simpa using hne
  have n2 : (er != 0) = true := by simpa using hne
  clear he
  by_cases hz : szE a b = 0
  · rcases sz_cases a b with ⟨h1, h2⟩ | ⟨w, H, rfl, rfl, hw, hw2, hH, ⟨h1, h2⟩ | ⟨h1, h2⟩⟩
    · rw [h1] at hz; simp at hz
    · rw [h1] at hz; simp at hz
    have hn' : nds w H = n := by rw [← hn, szN, if_pos h1]; simp
    have HW : Hid ((if wrE xs n = 0 then (if lin w H ≤ 1073741824 then (0 : Int) else 4) else wrE xs n) = er) := by have := HE.out; rw [agE, if_pos h1] at this; simp only [Int.toNat_natCast, hn'] at this; exact this
    rw [hn'] at h2
    by_cases h3 : wrE xs n = 0
    · have HM : Hid (1073741824 < lin w H ∧ er = 4) := by
        have := HW.out
        rw [if_pos h3] at this
        by_cases h4 : lin w H ≤ 1073741824
        · rw [if_pos h4] at this; exact absurd this.symm hne
        · rw [if_neg h4] at this; exact ⟨by omega, this.symm⟩
      obtain rfl : er = 4 := HM.out.2
      exact ragree_much w H n _ B v xs hw hw2 hH hn' h2 rfl HM.out.1 W hx h3
    · have HW2 : Hid (wrE xs n = er) := by have := HW.out; rwa [if_neg h3] at this
      have ks := rsize_any w H W n 0 hn hz
      obtain ⟨va, vc, rfl, hvc, hvl⟩ := hx.slice
      by_cases h4 : xs.length = n
      · have HW3 : Hid (xs.any badB = true ∧ er = 3) := by
          have := HW2.out
          rw [wrE, if_pos h4] at this
          cases hb : xs.any badB with
          | true => rw [hb] at this; exact ⟨rfl, this.symm⟩
          | false => rw [hb] at this; exact absurd this.symm hne
        obtain rfl : er = 3 := HW3.out.2
        have km := small_any B (.slice va xs.length vc) xs W HX.out false (by rw [HW3.out.1]; rfl)
        have z1 : ((xs.length : Int) != (n : Int)) = false := by simp; omega
        have z2 : (xs.length : Int) = (n : Int) := by omega
        clear h3 h4 HW HW2 hn hn' hz h1 hx
        go_enter Try.func12, Try.ntmps12
        go_wp2_with fail
        refine ks.mono ?_
        rintro e1 w1 ⟨rfl, rfl⟩
        clear ks
        go_wp2_with fail
        refine km.mono ?_
        rintro e2 w2 ⟨rfl, rfl⟩
        clear km
        go_wp2
        exact bodyPost_ret (v := .tuple #[.slice none 0 0, .int .i64 0, .int .i64 3]) (by simp [results, Try.results12, go_sem]) rfl ⟨rfl, Below.refl _ _⟩
      · obtain rfl : 8 = er := by rw [← HW2.out, wrE, if_neg h4]
        have z1 : ((xs.length : Int) != (n : Int)) = true := by simp; omega
        have z2 : ¬ (xs.length : Int) = (n : Int) := by omega
        clear h3 h4 HW HW2 hn hn' hz h1 hx
        go_enter Try.func12, Try.ntmps12
        go_wp2_with fail
        refine ks.mono ?_
        rintro e1 w1 ⟨rfl, rfl⟩
        clear ks
        go_wp2
        exact bodyPost_ret (v := .tuple #[.slice none 0 0, .int .i64 0, .int .i64 8]) (by simp [results, Try.results12, go_sem]) rfl ⟨rfl, Below.refl _ _⟩
  · obtain rfl : szE a b = er := by rw [← HE.out, agE, if_neg hz]
    obtain ⟨er, her⟩ : ∃ er, szE a b = er := ⟨_, rfl⟩
    have ks := rsize_any a b W n er hn her
    obtain ⟨va, vc, rfl, _⟩ := hx.slice
    rw [her] at n1 n2
    simp only [her]
    clear hz hn her hne HE hx
    go_enter Try.func12, Try.ntmps12
    go_wp2_with fail
    refine ks.mono ?_
    rintro e1 w1 ⟨rfl, rfl⟩
    clear ks
    go_wp2
    exact bodyPost_ret (v := .tuple #[.slice none 0 0, .int .i64 0, .int .i64 er]) (by simp [results, Try.results12, go_sem]) rfl ⟨rfl, Below.refl _ _⟩
end Go.Proofs.Ytgfndaiilhbkmaa
