import Derived.Test.YtnjfphagpfcioaaTsp
namespace Go.Proofs.Ytnjfphagpfcioaa
open Go.RowKit Go.Proofs.Ytnjfphagpfcioaa.Ds

theorem len_end (l : List Sp) : l.length ≤ endT l := by
  induction l with
  | nil => simp [endT]
  | cons s l ih =>
    have : endT (s :: l) = 2 ^ s.1 + endT l := by simp [endT]
    have h1 : 0 < 2 ^ s.1 := Nat.two_pow_pos _
    simp only [List.length_cons]
    omega
theorem alive_any (w : World) : Calls Try.prog 4 #[] w fun e w' => e = .returned (.bool true) ∧ Below w.heap.size w w' := by
  have kc := cover_ok 1 1 (by decide) (by decide) w
  go_enter Try.func4, Try.ntmps4
  go_wp2_with fail
  refine kc.mono ?_
  rintro e1 w1 ⟨v, l, rfl, hrow, hcv, _, hb1⟩
  obtain ⟨a, c, rfl⟩ := row_slice hrow
  have hl1 : l.length = 1 := by
    have h1 := len_end l
    have h2 := hcv.en
    rcases Nat.eq_zero_or_pos l.length with h | h
    · have : l = [] := List.eq_nil_of_length_eq_zero h
      subst this
      simp [endT] at h2
    · omega
  rw [hl1]
  clear kc hrow hcv hl1
  go_wp2
  go_ret
  exact ⟨rfl, hb1⟩
theorem TwoB.drawn {w : World} {R : Nat} {x y : Value} (h : TwoB w R x y) (n : Nat) : TwoB (w.drewN n) R x y := h.below (below_drewN (Below.refl _ _) n)

set_option maxRecDepth 100000 in
set_option maxHeartbeats 4000000 in
theorem treeFew_walk (h t : Int) (w : World) : Calls Try.prog 3 #[.int .i64 h, .int .i64 t] w fun e w' => e = .returned (.bool true) ∧ Below w.heap.size w w' := by
  have kal := fun W => alive_any W
  by_cases hh : 0 ≤ h ∧ h ≤ 10
  · obtain ⟨hn, rfl⟩ := Int.eq_ofNat_of_zero_le hh.1
    have hn10 : hn ≤ 10 := by omega
    have klo := fun W => long_any hn (by omega) W
    obtain ⟨q, hq⟩ : ∃ q, 2 ^ hn = q := ⟨_, rfl⟩
    have HQ : Hid (2 ^ hn = q) := hq
    have hq4 : q ≤ 1024 := by rw [← hq]; exact pow_le (Nat.le_refl _) hn10
    simp only [hq] at klo
    have g0 : ¬ (hn : Int) < 0 := by omega
    have g1 : ¬ (hn : Int) > 10 := by omega
    have g2 : ¬ 10 < hn := by omega
    by_cases ht0 : t < 0
    · have kc := fun W => cover_bad (hn : Int) t (.inr ⟨hn, rfl, hn10, .inl ht0⟩) W
      clear hh hq
      go_enter Try.func3, Try.ntmps3
      go_wp2_with fail
      refine (kal _).mono ?_
      rintro e1 w1 ⟨rfl, hb1⟩
      go_wp2_with fail
      refine (kc _).mono ?_
      rintro e2 w2 ⟨rfl, rfl⟩
      go_wp2
      go_ret
      exact ⟨rfl, hb1⟩
    · obtain ⟨tn, rfl⟩ := Int.eq_ofNat_of_zero_le (by omega : 0 ≤ t)
      by_cases htq : q < tn
      · have kc := fun W => cover_bad (hn : Int) (tn : Int) (.inr ⟨hn, rfl, hn10, .inr (by rw [hq]; omega)⟩) W
        have g3 : (tn : Int) > (q : Int) := by omega
        clear hh hq
        go_enter Try.func3, Try.ntmps3
        go_wp2_with fail
        refine (kal _).mono ?_
        rintro e1 w1 ⟨rfl, hb1⟩
        go_wp2_with fail
        refine (kc _).mono ?_
        rintro e2 w2 ⟨rfl, rfl⟩
        go_wp2_with fail
        refine (klo _).mono ?_
        rintro e3 w3 ⟨rfl, rfl⟩
        go_wp2
        go_ret
        exact ⟨rfl, hb1⟩
      · have kc := fun W => cover_ok hn tn hn10 (by rw [hq]; omega) W
        have ht4 : tn ≤ 1024 := by omega
        clear hh hq ht0
        go_enter Try.func3, Try.ntmps3
        go_wp2_with fail
        refine (kal _).mono ?_
        rintro e1 w1 ⟨rfl, hb1⟩
        go_wp2_with fail
        refine (kc _).mono ?_
        rintro e2 w2 ⟨cv, l, rfl, hrow, hcv, hll, hb2⟩
        obtain ⟨ca, cc, rfl⟩ := row_slice hrow
        have HR : Hid (w2.ownsRow w1.heap.size 29 2 (.slice ca l.length cc) l.length (encP l)) := hrow
        have HCV : Hid (Cvr hn l tn) := hcv
        have B2 : Below w.heap.size w w2 := bt hb1 hb2
        have g3 : ¬ (l.length : Int) > (hn : Int) + 1 := by omega
        have g4 : ¬ hn + 1 < l.length := by omega
        clear kal kc hrow hcv
        go_wp2_with fail
        go_loopw [7, 46] (fun av s wr => ∃ (i e : Nat), s = .int .i64 (i : Int) ∧ av = .int .i64 (e : Int) ∧ i ≤ l.length ∧ Hid (endT (l.take i) = e) ∧ e ≤ 1024 ∧ Below w2.heap.size w2 wr) (fun _ s _ => l.length - (intOf s).toNat)
        case atStart => exact ⟨0, 0, rfl, rfl, Nat.zero_le _, by simp [Hid, endT], by omega, Below.refl _ _⟩
        case round =>
          obtain ⟨i, e, rfl, rfl, hi, HE, he4, hbr⟩ := hrel
          by_cases h1 : i < l.length
          · obtain ⟨⟨sl, sa⟩, hs⟩ := get_lt h1
            obtain ⟨hok1, hok2⟩ := HCV.out.ok i _ hs
            simp only at hok1 hok2
            rw [HE.out] at hok1
            have hg := encP_get hs
            have hr := row_gb HR.out (gb_none hbr) (by simp)
            obtain ⟨g, rfl, _, _, k0⟩ := row_cell hr hg.1
            obtain ⟨g', e', _, _, k1⟩ := row_cell hr hg.2
            simp only [Option.some.injEq, Addr.mk.injEq, and_true] at e'
            subst e'
            have HE2 : Hid (endT (l.take (i + 1)) = e + 2 ^ sl) := by
              rw [Hid, List.take_add_one, hs]
              simp only [Option.toList_some]
              rw [end_snoc, HE.out]
            have hend : endT (l.take (i + 1)) ≤ tn := by rw [← HCV.out.en]; exact end_take_le _ _
            obtain ⟨pw, hpw⟩ : ∃ pw, 2 ^ sl = pw := ⟨_, rfl⟩
            have kl := fun W => long_any sl (by omega) W
            simp only [hpw] at kl hok1
            rw [hpw] at HE2
            have hpw4 : e + pw ≤ 1024 := by rw [HE2.out] at hend; omega
            have hsa : sa ≤ 1024 := by
              have h0 : 0 < pw := by rw [← hpw]; exact Nat.two_pow_pos _
              have : sa * 1 ≤ sa * pw := Nat.mul_le_mul_left _ h0
              omega
            have z1 : (i : Int) < (l.length : Int) := by omega
            have s0 : ¬ (sl : Int) < 0 := by omega
            have s1 : ¬ (sl : Int) > (hn : Int) := by omega
            have s1' : ¬ hn < sl := by omega
            have s2 : ¬ (sa : Int) < 0 := by omega
            have hmul : (sa : Int) * (pw : Int) = (e : Int) := by rw [← hok1]; simp
            have hwm : IntKind.i64.wrap ((sa : Int) * (pw : Int)) = (e : Int) := by rw [hmul, IntKind.wrap_i64]; omega
            obtain ⟨X, hX⟩ : ∃ X, wr.alloc (.cells #[.int .i64 (sl : Int), .int .i64 (sa : Int)] 29) = X := ⟨_, rfl⟩
            have bX : Below wr.heap.size wr X := by rw [← hX]; exact ba _ _
            have TX : Hid (TwoB X wr.heap.size (.int .i64 (sl : Int)) (.int .i64 (sa : Int))) := by rw [← hX]; exact TwoB.new _ _ _ 29 _ rfl
            obtain ⟨t0, t1, _, _, hlt⟩ := TX.out
            have bX2 : Below w2.heap.size w2 X := bt hbr bX
            clear hs hg hr hpw hend hok1 hmul
            go_wp2
            go_quiet ((go_at_call 6; refine Calls.quiet_of_same (kl _)))
            go_wp2_with fail
            have bN := fun n => below_drewN bX2 n
            have tN := fun n => (TX.out.drawn n).c0
            refine (kl _).mono ?_
            rintro e9 w9 ⟨rfl, rfl⟩
            go_wp2
            go_roundw
            case rel => exact ⟨i + 1, e + pw, by go_num, by go_num, by omega, HE2, by omega, bN _⟩
            case measure => simp [intOf]; omega
          · obtain rfl : i = l.length := by omega
            have hen : e = tn := by have h := HE.out; rw [List.take_length, HCV.out.en] at h; exact h.symm
            subst hen
            by_cases hlast : e < q
            · have ksp := fun W => spots_ok hn e hn10 (by rw [HQ.out]; exact hlast) W
              go_wp2_with fail
              refine (ksp _).mono ?_
              rintro e5 w5 ⟨v5, rfl, hrow5, hb5⟩
              obtain ⟨pa, pc, rfl⟩ := row_slice hrow5
              have HR5 : Hid (w5.ownsRow wr.heap.size 29 2 (.slice pa (hn + 1) pc) (hn + 1) (encP (spT e (hn + 1)))) := hrow5
              have B5 : Below w.heap.size w w5 := bt (bt B2 hbr) hb5
              clear ksp hrow5
              go_wp2_with fail
              go_loopw [102] (fun s wr => ∃ (j : Nat), s = .int .i64 (j : Int) ∧ j ≤ hn + 1 ∧ Below w5.heap.size w5 wr) (fun s _ => hn + 1 - (intOf s).toNat)
              case atStart => exact ⟨0, rfl, Nat.zero_le _, Below.refl _ _⟩
              case round =>
                obtain ⟨j, rfl, hj, hbj⟩ := hrel
                by_cases hj1 : j < hn + 1
                · obtain ⟨a1, ha1⟩ : ∃ a1, e / 2 ^ j = a1 := ⟨_, rfl⟩
                  have hs : (spT e (hn + 1))[j]? = some (j, a1) := by simp [spT, hj1, ha1]
                  have hg := encP_get hs
                  have hr := row_gb HR5.out (gb_none hbj) (by simp)
                  obtain ⟨g, rfl, _, _, k0⟩ := row_cell hr hg.1
                  obtain ⟨g', e', _, _, k1⟩ := row_cell hr hg.2
                  simp only [Option.some.injEq, Addr.mk.injEq, and_true] at e'
                  subst e'
                  obtain ⟨pw, hpw⟩ : ∃ pw, 2 ^ j = pw := ⟨_, rfl⟩
                  have kl := fun W => long_any j (by omega) W
                  simp only [hpw] at kl
                  rw [hpw] at ha1
                  have hp0 : 0 < pw := by rw [← hpw]; exact Nat.two_pow_pos _
                  have hm1 : a1 * pw ≤ e := by rw [← ha1]; exact Nat.div_mul_le_self _ _
                  have hm2 : e < (a1 + 1) * pw := by
                    rw [← ha1]
                    have := Nat.lt_div_mul_add hp0 (a := e)
                    rw [Nat.add_mul, Nat.one_mul]; exact this
                  have hpw4 : pw ≤ 1024 := by rw [← hpw]; exact pow_le (show j ≤ hn by omega) hn10
                  obtain ⟨m1, hmm1⟩ : ∃ m1, a1 * pw = m1 := ⟨_, rfl⟩
                  obtain ⟨m2, hmm2⟩ : ∃ m2, (a1 + 1) * pw = m2 := ⟨_, rfl⟩
                  have hm12 : m2 = m1 + pw := by rw [← hmm1, ← hmm2, Nat.add_mul, Nat.one_mul]
                  rw [hmm1] at hm1
                  rw [hmm2] at hm2
                  have ha4 : a1 ≤ 1024 := by
                    have : a1 * 1 ≤ a1 * pw := Nat.mul_le_mul_left _ hp0
                    omega
                  have c1 : (a1 : Int) * (pw : Int) = (m1 : Int) := by rw [← hmm1]; simp
                  have c2 : ((a1 : Int) + 1) * (pw : Int) = (m2 : Int) := by rw [← hmm2]; simp
                  have w1' : IntKind.i64.wrap ((a1 : Int) * (pw : Int)) = (m1 : Int) := by rw [c1, IntKind.wrap_i64]; omega
                  have w2' : IntKind.i64.wrap (((a1 : Int) + 1) * (pw : Int)) = (m2 : Int) := by rw [c2, IntKind.wrap_i64]; omega
                  have d1 : ¬ (m1 : Int) > (e : Int) := by omega
                  have d1' : ¬ e < m1 := by omega
                  have d2 : ¬ (m2 : Int) ≤ (e : Int) := by omega
                  have d2' : ¬ m2 ≤ e := by omega
                  have z1 : (j : Int) < (hn : Int) + 1 := by omega
                  obtain ⟨X, hX⟩ : ∃ X, wr.alloc (.cells #[.int .i64 (j : Int), .int .i64 (a1 : Int)] 29) = X := ⟨_, rfl⟩
                  have bX : Below wr.heap.size wr X := by rw [← hX]; exact ba _ _
                  have TX : Hid (TwoB X wr.heap.size (.int .i64 (j : Int)) (.int .i64 (a1 : Int))) := by rw [← hX]; exact TwoB.new _ _ _ 29 _ rfl
                  obtain ⟨t0, t1, _, _, hlt⟩ := TX.out
                  have bX2 : Below w5.heap.size w5 X := bt hbj bX
                  clear hs hg hr hpw ha1 hmm1 hmm2
                  go_wp2
                  go_quiet ((go_at_call 6; refine Calls.quiet_of_same (kl _)))
                  go_wp2
                  go_roundw
                  case rel => exact ⟨j + 1, by go_num, by omega, below_drewN bX2 _⟩
                  case measure => simp [intOf]; omega
                · obtain rfl : j = hn + 1 := by omega
                  have z1 : ¬ ((hn + 1 : Nat) : Int) < (hn : Int) + 1 := by omega
                  go_wp2
                  go_ret
                  exact ⟨rfl, bt B5 hbj⟩
            · have heq : e = q := by omega
              subst heq
              have ksp := fun W => spots_bad hn hn10 e (by rw [HQ.out]; exact Nat.le_refl _) ht4 W
              go_wp2_with fail
              refine (ksp _).mono ?_
              rintro e5 w5 ⟨rfl, rfl⟩
              go_wp2_with fail
              refine (klo _).mono ?_
              rintro e6 w6 ⟨rfl, rfl⟩
              go_wp2
              go_ret
              exact ⟨rfl, bt B2 hbr⟩
  · have kc := fun W => cover_bad h t (.inl hh) W
    by_cases h0 : h < 0
    · clear hh
      go_enter Try.func3, Try.ntmps3
      go_wp2_with fail
      refine (kal _).mono ?_
      rintro e1 w1 ⟨rfl, hb1⟩
      go_wp2_with fail
      refine (kc _).mono ?_
      rintro e2 w2 ⟨rfl, rfl⟩
      go_wp2
      go_ret
      exact ⟨rfl, hb1⟩
    · have h1 : h > 10 := by omega
      clear hh
      go_enter Try.func3, Try.ntmps3
      go_wp2_with fail
      refine (kal _).mono ?_
      rintro e1 w1 ⟨rfl, hb1⟩
      go_wp2_with fail
      refine (kc _).mono ?_
      rintro e2 w2 ⟨rfl, rfl⟩
      go_wp2
      go_ret
      exact ⟨rfl, hb1⟩
end Go.Proofs.Ytnjfphagpfcioaa
