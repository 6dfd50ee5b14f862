import Derived.Test.YtedfdbcoinfjaaaTso
import Derived.Test.YtedfdbcoinfjaaaTrc
namespace Go.Proofs.Ytedfdbcoinfjaaa
open Go.RowKit Go.Proofs.Ytedfdbcoinfjaaa.Ds

theorem TwoB.drawn {w : World} {R : Nat} {x y : Value} (h : TwoB w R x y) (n : Nat) : TwoB (w.drewN n) R x y := h.below (below_drewN (Below.refl _ _) n)

set_option maxRecDepth 100000 in
set_option maxHeartbeats 4000000 in
theorem rso_any (B : Nat) (v : Value) (ts : List Rw) (h t : Int) (w : World) (hB : B ≤ w.heap.size) (hr : Rws w B v ts) (n er : Int) (hne : soR h t (rr ts) = (n, er)) :
    Calls Try.prog 11 #[.int .i64 h, v, .int .i64 t] w fun e w' => e = .returned (.tuple #[.int .i64 n, .int .i64 er]) ∧ Below w.heap.size w w' := by
  obtain ⟨a, c, rfl, hc, hl⟩ := hr.slice
  rcases so_cases h t with hb | ⟨k, tn, rfl, rfl, hk, ht⟩
  · have kc := fun W => rcover_bad h t hb W
    rw [soR_bad hb] at hne
    simp only [Prod.mk.injEq] at hne
    obtain ⟨rfl, rfl⟩ := hne
    clear hb
    go_enter Try.func11, Try.ntmps11
    go_wp2_with fail
    refine (kc _).mono ?_
    rintro e1 w1 ⟨rfl, rfl⟩
    go_wp2
    go_ret2
    exact ⟨rfl, Below.refl _ _⟩
  · have kc := fun W => rcover_ok k tn hk ht W
    have ht4 : tn ≤ 1024 := Nat.le_trans ht (pow_le (Nat.le_refl _) hk)
    have HT : Hid (tn ≤ 2 ^ k) := ht
    rw [soR_ok hk ht, rr_len] at hne
    have HNE : Hid ((if (ts.length : Int) < (tn : Int) then ((0 : Int), (8 : Int)) else soA (rr ts) (cov k tn) 0) = (n, er)) := hne
    have HRW : Hid (Rws w B (.slice a ts.length c) ts) := hr
    have hll := (cov_gre ht).2.2
    obtain ⟨l, hlv⟩ : ∃ l, cov k tn = l := ⟨_, rfl⟩
    have HLV : Hid (cov k tn = l) := hlv
    rw [hlv] at hll
    simp only [hlv] at kc
    clear hne hr ht hlv
    by_cases c0 : ts.length < tn
    · have c0' : (tn : Int) > (ts.length : Int) := by omega
      have hne := HNE.out
      rw [if_pos (by omega)] at hne
      simp only [Prod.mk.injEq] at hne
      obtain ⟨rfl, rfl⟩ := hne
      go_enter Try.func11, Try.ntmps11
      go_wp2_with fail
      refine (kc _).mono ?_
      rintro e1 w1 ⟨cv, rfl, hrow, hb1⟩
      obtain ⟨ca, cc, rfl⟩ := row_slice hrow
      clear hrow
      go_wp2
      go_ret2
      exact ⟨rfl, hb1⟩
    · have c0' : ¬ (tn : Int) > (ts.length : Int) := by omega
      have HS : Hid (soA (rr ts) l 0 = (n, er)) := by
        have := HNE.out
        rw [if_neg (by omega), HLV.out] at this
        exact this
      clear HNE
      go_enter Try.func11, Try.ntmps11
      go_wp2_with fail
      refine (kc _).mono ?_
      rintro e1 w1 ⟨cv, rfl, hrow, hb1⟩
      obtain ⟨ca, cc, rfl⟩ := row_slice hrow
      have HR : Hid (w1.ownsRow w.heap.size 37 2 (.slice ca l.length cc) l.length (encP l)) := hrow
      clear hrow kc
      go_wp2_with fail
      go_loopw [10, 31] (fun sv s wr => ∃ (i : Nat) (z : Int), s = .int .i64 (i : Int) ∧ sv = .int .i64 z ∧ i ≤ l.length ∧ -1073741824 * (i : Int) ≤ z ∧ z ≤ 1073741824 * (i : Int) ∧ Hid (soA (rr ts) (l.drop i) z = (n, er)) ∧ Below w1.heap.size w1 wr) (fun _ s _ => l.length - (intOf s).toNat)
      case atStart => exact ⟨0, 0, rfl, rfl, Nat.zero_le _, by simp, by simp, HS, Below.refl _ _⟩
      case round =>
        obtain ⟨i, z, rfl, rfl, hi, hz1, hz2, HI, hbr⟩ := hrel
        by_cases h1 : i < l.length
        · obtain ⟨⟨sl, sa⟩, hs⟩ := get_lt h1
          have HSI : Hid (l[i]? = some (sl, sa)) := hs
          have hg := encP_get hs
          have hr := row_gb HR.out (gb_none hbr) (by simp)
          obtain ⟨g, rfl, _, _, k0⟩ := row_cell hr hg.1
          obtain ⟨g', e', _, _, k1⟩ := row_cell hr hg.2
          simp only [Option.some.injEq, Addr.mk.injEq, and_true] at e'
          subst e'
          obtain ⟨d1, d2, d3, d4, d5, d6, _⟩ := cov_at hk HT.out (by rw [HLV.out]; exact hs)
          simp only at d1 d2 d3 d4 d5
          have kl := fun W => long_any sl (by omega) W
          obtain ⟨p, hp⟩ : ∃ p, 2 ^ sl = p := ⟨_, rfl⟩
          simp only [hp] at kl
          rw [hp] at d3 d4 d5
          obtain ⟨m, hm⟩ : ∃ m, (sa + 1) * p = m := ⟨_, rfl⟩
          rw [hm] at d4 d5
          have hmi : ((sa : Int) + 1) * (p : Int) = (m : Int) := by rw [← hm]; simp
          obtain ⟨m1, hm1⟩ : ∃ m1, m - 1 = m1 := ⟨_, rfl⟩
          have hmj : (m : Int) - 1 = (m1 : Int) := by omega
          have hm1s : (m1 : Int) < (ts.length : Int) := by omega
          have BW : Below w.heap.size w wr := bt hb1 hbr
          obtain ⟨b, o, c', sa2, sc2, xs, he, hbB, hts, hxl, hcell, hnum⟩ := (HRW.out.at hB BW).get (i := m1) (by omega)
          simp only [Value.slice.injEq] at he
          obtain ⟨rfl, _, rfl⟩ := he
          have hto : toT (rr ts) (sl, sa) = if xs.length ≤ sl ∨ xs.any badB = true then none else some (xs.getD sl 0) := toT_some (by show (rr ts)[(sa + 1) * 2 ^ sl - 1]? = _; rw [hp, hm, hm1]; exact rr_get hts)
          have HTO : Hid (toT (rr ts) (sl, sa) = if xs.length ≤ sl ∨ xs.any badB = true then none else some (xs.getD sl 0)) := hto
          have HN : Hid (Num wr B (.slice sa2 xs.length sc2) xs) := hnum
          have hBr : B ≤ wr.heap.size := by have := BW.size; omega
          obtain ⟨X, hX⟩ : ∃ X, wr.alloc (.cells #[.int .i64 (sl : Int), .int .i64 (sa : Int)] 37) = X := ⟨_, rfl⟩
          have bX : Below wr.heap.size wr X := by rw [← hX]; exact ba _ _
          have TX : Hid (TwoB X wr.heap.size (.int .i64 (sl : Int)) (.int .i64 (sa : Int))) := by rw [← hX]; exact TwoB.new _ _ _ 37 _ rfl
          obtain ⟨t0, t1, _, _, hlt⟩ := TX.out
          have hcX : X.cell? ⟨b, o + m1, none⟩ = some (.slice sa2 xs.length sc2) := (bX.cell (p := ⟨b, o + m1, none⟩) (by show b < _; omega)).trans hcell
          have hm1n : m1 < ts.length := by omega
          have tN := fun q => (TX.out.drawn q).c0
          have bN := fun q => below_drewN bX q
          have z1 : (i : Int) < (l.length : Int) := by omega
          clear hs hg hr hp hm hm1 hts hcell hnum hto
          by_cases c1 : xs.length ≤ sl
          · have hne := HI.out
            rw [soA_none HSI.out (by rw [HTO.out, if_pos (.inl c1)])] at hne
            simp only [Prod.mk.injEq] at hne
            obtain ⟨rfl, rfl⟩ := hne
            have c1' : (sl : Int) ≥ (xs.length : Int) := by omega
            go_wp2
            go_quiet ((go_at_call 13; refine Calls.quiet_of_same (kl _)))
            go_wp2
            go_ret2
            exact ⟨rfl, bt BW (bN _)⟩
          · have c1' : ¬ (sl : Int) ≥ (xs.length : Int) := by omega
            have hslx : (sl : Int) < (xs.length : Int) := by omega
            go_wp2
            go_quiet ((go_at_call 13; refine Calls.quiet_of_same (kl _)))
            go_wp2_with fail
            go_loopw [53] (fun s wq => ∃ (j : Nat), s = .int .i64 (j : Int) ∧ j ≤ xs.length ∧ Hid (Non xs j) ∧ ∃ q, wq = X.drewN q) (fun s _ => xs.length - (intOf s).toNat)
            case atStart => exact ⟨0, rfl, Nat.zero_le _, rfl, _, rfl⟩
            case round =>
              obtain ⟨j, rfl, hj, HJ, q, rfl⟩ := hrel
              by_cases hj1 : j < xs.length
              · obtain ⟨b', o', c9, x, he, hxc, _, hx, hcx⟩ := (HN.out.at hBr (bN q)).get hj1
                simp only [Value.slice.injEq] at he
                obtain ⟨rfl, _, rfl⟩ := he
                rcases hbx : badB x with _ | _
                · have HJ2 : Hid (Non xs (j + 1)) := HJ.out.step hx hbx
                  have hb2 : ¬ x > 1073741824 ∧ ¬ x < -1073741824 := by simp [badB] at hbx; omega
                  obtain ⟨hb3, hb4⟩ := hb2
                  clear hx hbx
                  go_wp2
                  go_roundw
                  case rel => exact ⟨j + 1, by go_num, by omega, HJ2, _, rfl⟩
                  case measure => simp [intOf]; omega
                · have hne := HI.out
                  rw [soA_none HSI.out (by rw [HTO.out, if_pos (.inr (Non.hit hx hbx))])] at hne
                  simp only [Prod.mk.injEq] at hne
                  obtain ⟨rfl, rfl⟩ := hne
                  by_cases hb2 : x > 1073741824
                  · clear hx hbx
                    go_wp2
                    go_ret2
                    exact ⟨rfl, bt BW (bN _)⟩
                  · have hb3 : x < -1073741824 := by simp [badB] at hbx; omega
                    clear hx hbx
                    go_wp2
                    go_ret2
                    exact ⟨rfl, bt BW (bN _)⟩
              · have hall := HJ.out.all (by omega)
                obtain ⟨b', o', c9, x, he, hxc, _, hx, hcx⟩ := (HN.out.at hBr (bN q)).get (show sl < xs.length by omega)
                simp only [Value.slice.injEq] at he
                obtain ⟨rfl, _, rfl⟩ := he
                have hto2 : toT (rr ts) (sl, sa) = some x := by rw [HTO.out, if_neg (by rintro (h | h); exact c1 h; rw [hall] at h; cases h), List.getD, hx]; rfl
                have hbd := good_bd hall hx
                have HI2 : Hid (soA (rr ts) (l.drop (i + 1)) (z + x) = (n, er)) := by rw [Hid, ← soA_some HSI.out hto2]; exact HI.out
                have tq := tN q
                have bq := bt hbr (bN q)
                clear hall hx hto2
                go_wp2
                go_roundw
                case rel => exact ⟨i + 1, z + x, by go_num, by go_num, by omega, by omega, by omega, HI2, bq⟩
                case measure => simp [intOf]; omega
        · obtain rfl : i = l.length := by omega
          have hne := HI.out
          rw [List.drop_length] at hne
          simp only [soA, Prod.mk.injEq] at hne
          obtain ⟨rfl, rfl⟩ := hne
          go_wp2
          go_ret2
          exact ⟨rfl, bt hb1 hbr⟩
end Go.Proofs.Ytedfdbcoinfjaaa
