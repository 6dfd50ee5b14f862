import Derived.Test.YtjnclbhpdaonhaaAlv
namespace Go.Proofs.Ytjnclbhpdaonhaa
open Go.RowKit Go.Proofs.Ytjnclbhpdaonhaa.Ds

theorem evT_in {n : Int} {v c u : Int} {l : List Int} {x k : Int} {r : List Int} (hc : 0 ≤ c) (hb : badB l = false) (h : evT n v c u l = some (x, k, r)) : 0 ≤ x ∧ x < n := by
  induction l generalizing v c u with
  | nil => cases h
  | cons b l ih =>
    have h0 := bad_get hb (i := 0) rfl
    have h1 : badB l = false := bad_drop hb 1
    simp only [evT] at h
    split at h
    · exact ih (by omega) h1 h
    · split at h
      · exact ih (by omega) h1 h
      · simp only [Option.some.injEq, Prod.mk.injEq] at h
        omega

/-- one even draw -/
theorem evN_cases (n : Nat) (l : List Int) (hb : badB l = false) : (evN n l = none ∧ evE n l = none) ∨ ∃ x : Nat, x < n ∧ evE n l = some (x : Int) ∧ ∃ u r, evN n l = some ([(x : Int)], u, r) := by
  unfold evN evE
  by_cases h : (n : Int) = 1
  · right
    exact ⟨0, by omega, by simp [h], 0, l, by simp [h]⟩
  · simp only [if_neg h]
    have hg := evG_is n 1 0 0 l
    cases e : evT n 1 0 0 l with
    | none => left; rw [e] at hg; exact ⟨rfl, hg.symm⟩
    | some t =>
      obtain ⟨x, u, r⟩ := t
      have hx := evT_in (by omega) hb e
      rw [e] at hg
      right
      obtain ⟨y, rfl⟩ := Int.eq_ofNat_of_zero_le hx.1
      exact ⟨y, by omega, hg.symm, u, r, rfl⟩

theorem evens_one (n L k : Nat) (hn : 1 ≤ n ∧ n ≤ 64) (hL : L ≤ 9) : evensT n (dg k L) 1 = (drT (evN n) 1 (dg k L), 0) := by
  have h1 : wrB (dg k L) 1 = 0 := by
    unfold wrB
    rw [dg_len, dg_bits, if_neg (by omega), if_neg (by simp)]
  unfold evensT
  rw [if_neg (by omega), if_pos h1]
  rfl

/-- what was counted -/
def Cnt (n L k : Nat) (xs : List Int) (en : Nat) : Prop := xs.length = n ∧ (∀ x, x < n → xs[x]? = some ((su (fun j => if evE n (dg j L) = some (x : Int) then 1 else 0) k : Nat) : Int)) ∧ en = su (fun j => if (evE n (dg j L)).isSome then 1 else 0) k
theorem Cnt.start (n L : Nat) : Cnt n L 0 (List.replicate n 0) 0 := ⟨by simp, fun x hx => by simp [su, hx], rfl⟩
theorem Cnt.none {n L k : Nat} {xs : List Int} {en : Nat} (h : Cnt n L k xs en) (he : evE n (dg k L) = none) : Cnt n L (k + 1) xs en := by
  obtain ⟨h1, h2, h3⟩ := h
  refine ⟨h1, fun x hx => ?_, ?_⟩
  · rw [h2 x hx]; simp [su, he]
  · rw [h3]; simp [su, he]
theorem Cnt.some {n L k : Nat} {xs : List Int} {en : Nat} (h : Cnt n L k xs en) {y : Nat} (hy : y < n) (he : evE n (dg k L) = some (y : Int)) {q : Int} (hq : xs[y]? = some q) : Cnt n L (k + 1) (xs.set y (q + 1)) (en + 1) := by
  obtain ⟨h1, h2, h3⟩ := h
  refine ⟨by simpa using h1, fun x hx => ?_, ?_⟩
  · by_cases e : y = x
    · subst e
      rw [List.getElem?_set_self (by omega)]
      rw [h2 y hy] at hq
      simp only [Option.some.injEq] at hq
      simp [su, he, ← hq]
    · rw [List.getElem?_set_ne e, h2 x hx]
      have e2 : ¬ ((y : Int) = (x : Int)) := by omega
      simp [su, he, e2]
  · rw [h3]; simp [su, he]
theorem su_bound (f : Nat → Nat) (k : Nat) (h : ∀ i, f i ≤ 1) : su f k ≤ k := by
  have := su_le f (fun _ => 1) k fun i _ => h i
  rwa [su_const, Nat.mul_one] at this
theorem Cnt.le {n L k : Nat} {xs : List Int} {en : Nat} (h : Cnt n L k xs en) : en ≤ k ∧ ∀ x, x < n → ∃ q : Nat, xs[x]? = Option.some (q : Int) ∧ q ≤ k := by
  obtain ⟨h1, h2, h3⟩ := h
  refine ⟨by rw [h3]; exact su_bound _ _ fun i => by split <;> omega, fun x hx => ⟨_, h2 x hx, su_bound _ _ fun i => by split <;> omega⟩⟩

theorem pow9 {L : Nat} (h : L ≤ 9) : 1 ≤ 2 ^ L ∧ 2 ^ L ≤ 512 := by
  refine ⟨Nat.pow_pos (by decide), ?_⟩
  have := Nat.pow_le_pow_right (n := 2) (by decide) h
  simpa using this

set_option maxHeartbeats 4000000 in
set_option maxRecDepth 100000 in
theorem law_even (n L : Int) (w : World) (hn : -9223372036854775808 ≤ n ∧ n ≤ 9223372036854775807) (hL : -9223372036854775808 ≤ L ∧ L ≤ 9223372036854775807) :
    Calls Try.prog 6 #[.int .i64 n, .int .i64 L] w fun e w' => e = .returned (.bool true) ∧ Below w.heap.size w w' := by
  have ka := alive_any w
  go_enter Try.func6, Try.ntmps6
  go_wp2_with fail
  refine ka.mono ?_
  rintro e w0 ⟨rfl, hb0⟩
  clear ka
  by_cases h1 : n < 1
  · go_wp2
    go_ret
    exact ⟨rfl, hb0⟩
  by_cases h2 : 64 < n
  · go_wp2
    go_ret
    exact ⟨rfl, hb0⟩
  by_cases h3 : L < 0
  · go_wp2
    go_ret
    exact ⟨rfl, hb0⟩
  by_cases h4 : 9 < L
  · go_wp2
    go_ret
    exact ⟨rfl, hb0⟩
  obtain ⟨n, rfl⟩ := Int.eq_ofNat_of_zero_le (show 0 ≤ n by omega)
  obtain ⟨L, rfl⟩ := Int.eq_ofNat_of_zero_le (show 0 ≤ L by omega)
  have hn1 : 1 ≤ n ∧ n ≤ 64 := by omega
  have hL1 : L ≤ 9 := by omega
  have hmk := make_ints n (by omega)
  obtain ⟨A, hA0⟩ : ∃ A, 2 ^ L = A := ⟨_, rfl⟩
  have HA : Hid (2 ^ L = A) := hA0
  clear hA0
  have hA : 1 ≤ A ∧ A ≤ 512 := by rw [← HA.out]; exact pow9 hL1
  go_wp2
  go_loop [5, 6] (fun av iv => ∃ i a : Nat, av = .int .i64 (a : Int) ∧ iv = .int .i64 (i : Int) ∧ i ≤ L ∧ a ≤ 512 ∧ Hid (a = 2 ^ i)) (fun _ iv => L - (intOf iv).toNat)
  case atStart => exact ⟨0, 1, rfl, rfl, Nat.zero_le _, by omega, rfl⟩
  case round =>
    obtain ⟨i, a, rfl, rfl, hi, ha, HI⟩ := hrel
    by_cases h5 : i < L
    · have ha2 : 2 * a ≤ 512 := by
        have := (pow9 (L := i + 1) (by omega)).2
        rw [Nat.pow_succ, ← HI.out] at this; omega
      go_wp2
      go_round
      case rel => exact ⟨i + 1, 2 * a, by go_num, by go_num, h5, ha2, by rw [Hid, HI.out, Nat.pow_succ]; omega⟩
      case measure => simp [intOf]; omega
    · obtain rfl : a = A := by rw [HI.out, ← HA.out, show i = L by omega]
      clear HI ha
      go_wp2
      go_loopw [8, 9] (fun ev kv wr => ∃ (k en : Nat) (xs : List Int), ev = .int .i64 (en : Int) ∧ kv = .int .i64 (k : Int) ∧ k ≤ a ∧ Hid (Cnt n L k xs en) ∧ Hid (RowI wr w0.heap.size xs) ∧ Below w.heap.size w wr) (fun _ kv _ => a - (intOf kv).toNat)
      case atStart => exact ⟨0, 0, List.replicate n 0, rfl, rfl, Nat.zero_le _, Cnt.start n L, RowI.made _ _, bal hb0 _⟩
      case round =>
        obtain ⟨k, en, xs, rfl, rfl, hk, HC, HR, hbl⟩ := hrel
        have hw0 := hb0.size
        have hrl := HR.out.lt
        by_cases h6 : k < a
        · have kd := digits_any k L wr hL1 (by omega)
          go_wp2_with fail
          refine kd.mono ?_
          rintro e w1 ⟨⟨da, dc, rfl, hI1⟩, hb1⟩
          have HE := evens_one n L k hn1 hL1
          have HI1 : Hid (Ints w1 w1.heap.size 0 (.slice da (dg k L).length dc) (dg k L)) := hI1 0 (by omega)
          clear kd hI1
          have hs1 := hb1.size
          rcases evN_cases n (dg k L) (dg_bits k L) with ⟨q1, q2⟩ | ⟨x, hx, q2, u, r, q1⟩
          · have kc := evens_any w1.heap.size 0 n (.slice da (dg k L).length dc) (dg k L) 1 w1 (Nat.le_refl _) HI1.out (by omega) (by omega) [] 0 (by rw [HE, drT_none q1])
            go_wp2_with fail
            refine kc.mono ?_
            rintro e w2 ⟨v2, ds, rfl, k1, k2, hb2⟩
            have hl : ds.length = 0 := by rw [← rd_len, k1]; rfl
            obtain ⟨a2, c2, rfl, _⟩ := id k2
            rw [hl]
            have HC2 : Hid (Cnt n L (k + 1) xs en) := HC.out.none q2
            have HB2 : Below wr.heap.size wr w2 := bt hb1 hb2
            have HR2 : Hid (RowI w2 w0.heap.size xs) := HR.out.keep HB2 hrl
            clear kc k1 k2 hl q1 q2 HE
            go_wp2
            go_roundw
            case rel => exact ⟨k + 1, en, xs, rfl, by go_num, h6, HC2, HR2, bt hbl HB2⟩
            case measure => simp [intOf]; omega
          · have kc := evens_any w1.heap.size 0 n (.slice da (dg k L).length dc) (dg k L) 1 w1 (Nat.le_refl _) HI1.out (by omega) (by omega) [([(x : Int)], u)] 0 (by rw [HE, drT_some q1]; rfl)
            go_wp2_with fail
            refine kc.mono ?_
            rintro e w2 ⟨v2, ds, rfl, k1, k2, hb2⟩
            obtain ⟨b, o, c, sa, sc, rfl, hc1, hbw, c0, _, hIx⟩ := k2.one k1
            obtain ⟨sa', sc', hsv, hsc, _, hcell⟩ := hIx
            simp only [Value.slice.injEq] at hsv
            obtain ⟨rfl, _, rfl⟩ := hsv
            obtain ⟨bx, ox, rfl, hbx, _, hcx⟩ := hcell (by simp)
            have cx := hcx 0 (x : Int) rfl
            obtain ⟨q, hq, hqk⟩ := HC.out.le.2 x hx
            have HC2 : Hid (Cnt n L (k + 1) (xs.set x ((q : Int) + 1)) (en + 1)) := HC.out.some hx q2 hq
            have hen := HC.out.le.1
            have HB2 : Below wr.heap.size wr w2 := bt hb1 hb2
            have HR2 : Hid (RowI w2 w0.heap.size xs) := HR.out.keep HB2 hrl
            have r1 := HR2.out.cells x q hq
            have r2 := HR2.out.thaw x (by have := HC.out.1; omega)
            have hbw2 : Below w.heap.size w w2 := bt hbl HB2
            have y1 : (x : Int) < (n : Int) := by omega
            simp only [List.length_singleton, Nat.add_zero] at c0 cx
            clear kc k1 k2 q1 q2 HE hcell hcx hq hb2 hb1 HB2 HI1
            go_wp2
            go_roundw
            case rel => exact ⟨k + 1, en + 1, xs.set x ((q : Int) + 1), by go_num, by go_num, h6, HC2, HR2.out.set x ((q : Int) + 1), bs hbw2 (p := ⟨w0.heap.size, x, none⟩) (show w.heap.size ≤ w0.heap.size by omega) _⟩
            case measure => simp [intOf]; omega
        · obtain rfl : k = a := by omega
          obtain ⟨z1, z2, z3⟩ := HC.out
          have hev := even_ends n L hn1.1
          have hfa := fun x hx => even_fair n L x hn1.1 hx
          rw [HA.out] at hev hfa
          rw [← z3] at hev
          have HX : Hid (∀ x, x < n → xs[x]? = some ((k : Int) / (n : Int))) := fun x hx => by rw [z2 x hx, hfa x hx]; rfl
          have HZ : Hid (xs.length = n) := z1
          have h7 : (k : Int) - en < n := by omega
          have h8 : (en : Int) ≤ k := by omega
          have h9 : ¬ (n : Int) = 0 := by omega
          have hd1 : 0 ≤ (k : Int) / (n : Int) ∧ (k : Int) / (n : Int) ≤ 512 := ⟨Int.ediv_nonneg (by omega) (by omega), Int.le_trans (Int.ediv_le_self _ (by omega)) (by omega)⟩
          have hbl2 : Hid (Below w.heap.size w wr) := hbl
          clear z1 z2 z3 hev hfa HC
          go_wp2
          go_loop [102] (fun iv => ∃ i : Nat, iv = .int .i64 (i : Int) ∧ i ≤ n) (fun iv => n - (intOf iv).toNat)
          case atStart => exact ⟨0, rfl, Nat.zero_le _⟩
          case round =>
            obtain ⟨i, rfl, hin⟩ := hrel
            by_cases h10 : i < n
            · have c1 := HR.out.cells i _ (HX.out i h10)
              go_wp2
              go_round
              case rel => exact ⟨i + 1, by go_num, h10⟩
              case measure => simp [intOf]; omega
            · go_wp2
              go_ret
              exact ⟨rfl, hbl⟩
end Go.Proofs.Ytjnclbhpdaonhaa
