import Derived.Test.YtlndlpjadajelaaGreatQl18
import Derived.Test.YtlndlpjadajelaaGreatQl14
import Derived.Test.YtlndlpjadajelaaGreatQl17
import Derived.Deep.RegionHeld3
namespace Go.Proofs.YtlndlpjadajelaaGreat
open Go.RowKit Go.Proofs.YtlndlpjadajelaaGreat.Ds

theorem ret_n {a b : Int} (h : a = b) : Ending.returned (.int .i64 a) = .returned (.int .i64 b) := by rw [h]

/-- into -/
theorem into_any (n lo hi : Int) (w : World) :
    Calls Tryz.prog 74 #[.int .i64 n, .int .i64 lo, .int .i64 hi] w fun e w' => e = .returned (.int .i64 (plcT lo hi n)) ∧ w' = w := by
  go_enter Tryz.func74, Tryz.ntmps74
  go_wp2
  all_goals
    go_ret
    refine ⟨ret_n ?_, rfl⟩
    unfold plcT
    first | omega | (split at * <;> omega)

/-- power, of what is not too much -/
theorem npow_any (x : Int) (n : Nat) (hn : n ≤ 4096) (hx : 1 ≤ x) (h : x ^ n ≤ 1073741824) (w : World) :
    Calls Tryz.prog 147 #[.int .i64 x, .int .i64 (n : Int)] w fun e w' => e = .returned (.int .i64 (x ^ n)) ∧ w' = w := by
  have H : Hid (x ^ n ≤ 1073741824) := h
  clear h
  go_enter Tryz.func147, Tryz.ntmps147
  go_wp2
  go_loop [5, 7] (fun a c => ∃ i : Nat, i ≤ n ∧ a = .int .i64 (x ^ i) ∧ c = .int .i64 (i : Int)) (fun _ c => n - (intOf c).toNat)
  case atStart => exact ⟨0, Nat.zero_le _, by simp, rfl⟩
  case round =>
    obtain ⟨i, hi, rfl, rfl⟩ := hrel
    obtain ⟨P, hP⟩ : ∃ P, x ^ i = P := ⟨_, rfl⟩
    by_cases c : i < n
    · have b1 := Int.le_trans (pow_mono hx (show i + 1 ≤ n from c)) H.out
      have b0 := pow_pos' hx (i + 1)
      have HE : Hid (x ^ (i + 1) = P * x) := by show x ^ (i + 1) = P * x; rw [Int.pow_succ, hP]
      rw [HE.out] at b1 b0
      rw [hP]
      clear hP H
      go_wp2
      go_round
      case rel => exact ⟨i + 1, c, by rw [HE.out], by go_num⟩
      case measure => simp [intOf]; omega
    · have : i = n := by omega
      subst this
      go_wp2
      go_ret
      exact ⟨rfl, rfl⟩

/-- much -/
theorem much_any (u d : Int) (n : Nat) (hn : n ≤ 4096) (hd : 1 ≤ d) (hu2 : u ≤ 1073741824) (hdu : d ≤ u) (r : Bool) (hn1 : 1 ≤ n) (hr : decide (1073741824 < (u + d) * u ^ n) = r) (w : World) :
    Calls Tryz.prog 82 #[rv u d, .int .i64 (n : Int)] w fun e w' => e = .returned (.bool r) ∧ Below w.heap.size w w' := by
  have hu : 1 ≤ u := by omega
  have HR : Hid (decide (1073741824 < (u + d) * u ^ n) = r) := hr
  clear hr
  have HB := ba w (.cells #[.int .i64 u, .int .i64 d] 23)
  go_enter Tryz.func82, Tryz.ntmps82
  go_wp2
  go_loop [5, 12] (fun a c => ∃ i : Nat, i ≤ n ∧ a = .int .i64 ((u + d) * u ^ i) ∧ c = .int .i64 (i : Int) ∧ (i = 0 ∨ (u + d) * u ^ i ≤ 1073741824)) (fun _ c => n - (intOf c).toNat)
  case atStart => exact ⟨0, Nat.zero_le _, by simp, rfl, .inl rfl⟩
  case round =>
    obtain ⟨i, hi, rfl, rfl, hle⟩ := hrel
    obtain ⟨P, hP⟩ : ∃ P, (u + d) * u ^ i = P := ⟨_, rfl⟩
    have hP0 : 0 ≤ P := by rw [← hP]; exact Int.mul_nonneg (by omega) (pow_nn (by omega) _)
    have hP1 : P ≤ 2147483648 := by
      rcases hle with rfl | h
      · rw [← hP]; simp; omega
      · omega
    by_cases c : i < n
    · have HE : Hid ((u + d) * u ^ (i + 1) = P * u) := by show _ = _; rw [Int.pow_succ, ← Int.mul_assoc, hP]
      have b0 : 0 ≤ P * u := Int.mul_nonneg hP0 (by omega)
      have b1 : P * u ≤ 2147483648 * 1073741824 := Int.mul_le_mul hP1 hu2 (by omega) (by omega)
      rw [hP]
      clear hle hP
      by_cases c2 : 1073741824 < P * u
      · have hr : r = true := by
          rw [← HR.out, decide_eq_true_iff]
          obtain ⟨k, hk⟩ := Nat.le.dest (show i + 1 ≤ n from c)
          rw [← hk, Int.pow_add, ← Int.mul_assoc, HE.out]
          have h1 := pow_pos' hu k
          have h2 := Int.mul_le_mul_of_nonneg_left h1 b0
          omega
        subst hr
        clear HE HR
        go_wp2
        go_ret
        exact ⟨rfl, HB⟩
      · have c3 : P * u ≤ 1073741824 := by omega
        go_wp2
        go_round
        case rel => exact ⟨i + 1, c, by rw [HE.out], by go_num, .inr (by rw [HE.out]; exact c3)⟩
        case measure => simp [intOf]; omega
    · have : i = n := by omega
      subst this
      have hr : r = false := by
        rw [← HR.out, decide_eq_false_iff_not]
        rcases hle with rfl | h <;> omega
      subst hr
      clear HR hle hP hP0 hP1
      go_wp2
      go_ret
      exact ⟨rfl, HB⟩

/-- the reference's power, up to a limit -/
def lim (x : Int) : Int := if x ≤ 1073741824 then x else 1073741825
theorem rpow_any (x : Int) (n : Nat) (hn : n ≤ 4096) (hx : 1 ≤ x) (h : x ≤ 1073741824) (r : Int) (hr : lim (x ^ n) = r) (w : World) :
    Calls Tryz.prog 108 #[.int .i64 x, .int .i64 (n : Int)] w fun e w' => e = .returned (.int .i64 r) ∧ w' = w := by
  have HR : Hid (lim (x ^ n) = r) := hr
  clear hr
  go_enter Tryz.func108, Tryz.ntmps108
  go_wp2
  go_loop [5, 6] (fun a c => ∃ i : Nat, i ≤ n ∧ a = .int .i64 (x ^ i) ∧ c = .int .i64 (i : Int) ∧ x ^ i ≤ 1152921504606846976) (fun _ c => n - (intOf c).toNat)
  case atStart => exact ⟨0, Nat.zero_le _, by simp, rfl, by simp⟩
  case round =>
    obtain ⟨i, hi, rfl, rfl, hle⟩ := hrel
    obtain ⟨P, hP⟩ : ∃ P, x ^ i = P := ⟨_, rfl⟩
    have hP0 : 1 ≤ P := by rw [← hP]; exact pow_pos' hx i
    rw [hP] at hle
    by_cases c2 : 1073741824 < P
    · have hr : r = 1073741825 := by
        rw [← HR.out, lim, if_neg]
        have := pow_mono hx hi
        omega
      subst hr
      rw [hP]
      clear HR hP
      by_cases c : i < n
      · go_wp2
        go_ret
        exact ⟨rfl, rfl⟩
      · have : i = n := by omega
        subst this
        go_wp2
        go_ret
        exact ⟨rfl, rfl⟩
    · by_cases c : i < n
      · have HE : Hid (x ^ (i + 1) = P * x) := by show _ = _; rw [Int.pow_succ, hP]
        have b0 : 0 ≤ P * x := Int.mul_nonneg (by omega) (by omega)
        have b1 : P * x ≤ 1073741824 * 1073741824 := Int.mul_le_mul (by omega) h (by omega) (by omega)
        rw [hP]
        clear hP
        go_wp2
        go_round
        case rel => exact ⟨i + 1, c, by rw [HE.out], by go_num, by rw [HE.out]; omega⟩
        case measure => simp [intOf]; omega
      · have : i = n := by omega
        subst this
        have hr : r = P := by
          rw [← HR.out, lim, if_pos] <;> omega
        subst hr
        rw [hP]
        clear HR hP
        go_wp2
        go_ret
        exact ⟨rfl, rfl⟩

/-! ### a loss -/
theorem noLoss_any (u d er : Int) (h : lossE u d = er) (w : World) :
    Calls Tryz.prog 76 #[rv u d] w fun e w' => e = .returned (.int .i64 er) ∧ Below w.heap.size w w' := by
  obtain ⟨b, hb⟩ : ∃ b, Rt.rightB u d = b := ⟨_, rfl⟩
  rw [lossE, hb] at h
  have HB := ba w (.cells #[.int .i64 u, .int .i64 d] 23)
  have kc := right_any u d b hb (w.alloc (.cells #[.int .i64 u, .int .i64 d] 23))
  clear hb
  cases b with
  | false =>
    simp at h; subst h
    go_enter Tryz.func76, Tryz.ntmps76
    go_wp2_with fail
    refine kc.mono ?_
    rintro e w1 ⟨rfl, hb1⟩
    have G1 := bt HB hb1
    go_wp2
    go_ret
    exact ⟨rfl, G1⟩
  | true =>
    simp at h
    by_cases c : u < d
    · rw [if_pos c] at h
      subst h
      go_enter Tryz.func76, Tryz.ntmps76
      go_wp2_with fail
      refine kc.mono ?_
      rintro e w1 ⟨rfl, hb1⟩
      have G1 := bt HB hb1
      obtain ⟨hc1, hf1⟩ := bcell hb1
      go_wp2
      go_ret
      exact ⟨rfl, G1⟩
    · rw [if_neg c] at h
      subst h
      go_enter Tryz.func76, Tryz.ntmps76
      go_wp2_with fail
      refine kc.mono ?_
      rintro e w1 ⟨rfl, hb1⟩
      have G1 := bt HB hb1
      obtain ⟨hc1, hf1⟩ := bcell hb1
      go_wp2
      go_ret
      exact ⟨rfl, G1⟩
end Go.Proofs.YtlndlpjadajelaaGreat

namespace Go.Proofs.YtlndlpjadajelaaGreat
open Go.RowKit Go.Proofs.YtlndlpjadajelaaGreat.Ds

/-- the reference's: what is wrong with a loss -/
theorem rloss_any (u d er : Int) (h : lossE u d = er) (w : World) :
    Calls Tryz.prog 80 #[rv u d] w fun e w' => e = .returned (.int .i64 er) ∧ Below w.heap.size w w' := by
  obtain ⟨b, hb⟩ : ∃ b, Rt.rightB u d = b := ⟨_, rfl⟩
  rw [lossE, hb] at h
  have HB := ba w (.cells #[.int .i64 u, .int .i64 d] 23)
  have kc := refRight_any u d b hb (w.alloc (.cells #[.int .i64 u, .int .i64 d] 23))
  clear hb
  cases b with
  | false =>
    simp at h; subst h
    go_enter Tryz.func80, Tryz.ntmps80
    go_wp2_with fail
    refine kc.mono ?_
    rintro e w1 ⟨rfl, hb1⟩
    have G1 := bt HB hb1
    go_wp2
    go_ret
    exact ⟨rfl, G1⟩
  | true =>
    simp at h
    by_cases c : u < d
    · rw [if_pos c] at h
      subst h
      go_enter Tryz.func80, Tryz.ntmps80
      go_wp2_with fail
      refine kc.mono ?_
      rintro e w1 ⟨rfl, hb1⟩
      have G1 := bt HB hb1
      obtain ⟨hc1, hf1⟩ := bcell hb1
      go_wp2
      go_ret
      exact ⟨rfl, G1⟩
    · rw [if_neg c] at h
      subst h
      go_enter Tryz.func80, Tryz.ntmps80
      go_wp2_with fail
      refine kc.mono ?_
      rintro e w1 ⟨rfl, hb1⟩
      have G1 := bt HB hb1
      obtain ⟨hc1, hf1⟩ := bcell hb1
      go_wp2
      go_ret
      exact ⟨rfl, G1⟩

theorem lost_any (u d n p q er : Int) (h : lostT u d n = (p, q, er)) (w : World) :
    Calls Tryz.prog 29 #[rv u d, .int .i64 n] w fun e w' => e = .returned (.tuple #[rv p q, .int .i64 er]) ∧ Below w.heap.size w w' := by
  obtain ⟨e0, he0⟩ : ∃ e0, lossE u d = e0 := ⟨_, rfl⟩
  rw [lostT, he0] at h
  have kc := noLoss_any u d e0 he0
  by_cases c : e0 = 0
  · subst c
    simp at h
    have kp := power_any u d n p q er h
    clear h he0
    go_enter Tryz.func29, Tryz.ntmps29
    go_wp2_with fail
    refine (kc _).mono ?_
    rintro e w1 ⟨rfl, hb1⟩
    have G1 := bt (bal (ba _ _) _) hb1
    obtain ⟨hc1, hf1⟩ := bcell hb1
    go_wp2_with fail
    refine (kp _).mono ?_
    rintro e w2 ⟨rfl, hb2⟩
    have G2 := bt G1 hb2
    obtain ⟨hc2, hf2⟩ := bcell hb2
    have hz1 : w.heap.size + 1 < w1.heap.size := by have := hb1.size; simp at this; omega
    go_wp2_with fail
    exact bodyPost_ret (v := .tuple #[rv p q, .int .i64 er]) (by simp [results, Tryz.results29, go_sem, hc1, hc2, hz1]) rfl ⟨rfl, bs (bs G2 (by simp) _) (by simp) _⟩
  · simp only [ne_eq, c, not_false_eq_true, if_true, Prod.mk.injEq] at h
    obtain ⟨rfl, rfl, rfl⟩ := h
    have c1 : (e0 == 0) = false := by simpa using c
    have c2 : (e0 != 0) = true := by simpa using c
    go_enter Tryz.func29, Tryz.ntmps29
    go_wp2_with fail
    refine (kc _).mono ?_
    rintro e w1 ⟨rfl, hb1⟩
    have G1 := bt (bal (ba _ _) _) hb1
    obtain ⟨hc1, hf1⟩ := bcell hb1
    go_wp2_with fail
    exact bodyPost_ret (v := .tuple #[rv 0 0, .int .i64 e0]) (by simp [results, Tryz.results29, go_sem, hc1]) rfl ⟨rfl, bs (bs G1 (by simp) _) (by simp) _⟩

theorem rlost_any (u d n p q er : Int) (h : lostT u d n = (p, q, er)) (w : World) :
    Calls Tryz.prog 33 #[rv u d, .int .i64 n] w fun e w' => e = .returned (.tuple #[rv p q, .int .i64 er]) ∧ Below w.heap.size w w' := by
  obtain ⟨e0, he0⟩ : ∃ e0, lossE u d = e0 := ⟨_, rfl⟩
  rw [lostT, he0] at h
  have kc := rloss_any u d e0 he0
  by_cases c : e0 = 0
  · subst c
    simp at h
    have kp := refPower_any u d n p q er h
    clear h he0
    go_enter Tryz.func33, Tryz.ntmps33
    go_wp2_with fail
    refine (kc _).mono ?_
    rintro e w1 ⟨rfl, hb1⟩
    have G1 := bt (bal (ba _ _) _) hb1
    obtain ⟨hc1, hf1⟩ := bcell hb1
    go_wp2_with fail
    refine (kp _).mono ?_
    rintro e w2 ⟨rfl, hb2⟩
    have G2 := bt G1 hb2
    obtain ⟨hc2, hf2⟩ := bcell hb2
    have hz1 : w.heap.size + 1 < w1.heap.size := by have := hb1.size; simp at this; omega
    go_wp2_with fail
    exact bodyPost_ret (v := .tuple #[rv p q, .int .i64 er]) (by simp [results, Tryz.results33, go_sem, hc1, hc2, hz1]) rfl ⟨rfl, bs (bs G2 (by simp) _) (by simp) _⟩
  · simp only [ne_eq, c, not_false_eq_true, if_true, Prod.mk.injEq] at h
    obtain ⟨rfl, rfl, rfl⟩ := h
    have c1 : (e0 == 0) = false := by simpa using c
    have c2 : (e0 != 0) = true := by simpa using c
    go_enter Tryz.func33, Tryz.ntmps33
    go_wp2_with fail
    refine (kc _).mono ?_
    rintro e w1 ⟨rfl, hb1⟩
    have G1 := bt (bal (ba _ _) _) hb1
    obtain ⟨hc1, hf1⟩ := bcell hb1
    go_wp2_with fail
    exact bodyPost_ret (v := .tuple #[rv 0 0, .int .i64 e0]) (by simp [results, Tryz.results33, go_sem, hc1]) rfl ⟨rfl, bs (bs G1 (by simp) _) (by simp) _⟩

end Go.Proofs.YtlndlpjadajelaaGreat

namespace Go.Proofs.YtlndlpjadajelaaGreat
open Go.RowKit Go.Proofs.YtlndlpjadajelaaGreat.Ds

/-- x, m times -/
def powI (x m : Int) : Int := x ^ m.toNat
theorem npowJ_any (x m : Int) (h0 : 0 ≤ m) (hn : m ≤ 4096) (hx : 1 ≤ x) (h : powI x m ≤ 1073741824) (w : World) :
    Calls Tryz.prog 147 #[.int .i64 x, .int .i64 m] w fun e w' => e = .returned (.int .i64 (powI x m)) ∧ w' = w := by
  obtain ⟨n, rfl⟩ := Int.eq_ofNat_of_zero_le h0
  exact npow_any x n (by omega) hx h w

theorem hid_take {u d lo : Int} {R a i : Nat} (h : i ≤ R) : (hidL u d lo R a).take (i + 1) = (hidL u d lo R a).take i ++ [([lo + (i : Int)], hwt u d R a i)] := by
  rw [List.take_add_one]
  congr 1
  have h1 : i < R + 1 := by omega
  simp [hidL, h1]
theorem hid_all {u d lo : Int} {R a i : Nat} (h : R + 1 ≤ i) : (hidL u d lo R a).take i = hidL u d lo R a := List.take_of_length_le (by simp [hidL]; omega)

/-- one number of one's own -/
theorem ints_one (W : World) (z : Int) (nb : Nat) (hn : nb ≠ W.heap.size) : Ints (W.alloc (.cells #[.int .i64 z] 3)) (W.heap.size + 1) nb (.slice (some ⟨W.heap.size, 0, none⟩) 1 1) [z] := by
  refine ⟨_, 1, rfl, Nat.le_refl _, by simp, fun _ => ⟨W.heap.size, 0, rfl, by omega, fun e => hn e.symm, fun i x hi => ?_⟩⟩
  match i, hi with
  | 0, hi => simp at hi; subst hi; simp [go_sem]

theorem own_or3 {v : Value} {n : Nat} (h : ∀ g, v.ownBlock = some g → g < n) (hn : 0 < n) : ∃ k, k < n ∧ ∀ g, v.ownBlock = some g → k = g := by
  cases e : v.ownBlock with
  | none => exact ⟨0, hn, fun g e => by cases e⟩
  | some g => exact ⟨g, h g e, fun g' e => by simpa using e⟩

set_option maxHeartbeats 2000000 in
set_option maxRecDepth 100000 in
/-- hidden -/
theorem hidden_fr (u d lo : Int) (R a : Nat) (hR1 : 1 ≤ R) (hR : R ≤ 64) (ha : a ≤ R) (hd : 1 ≤ d) (hdu : d ≤ u) (hu : u ≤ 1073741824) (hm : (u + d) * u ^ R ≤ 1073741824) (hlo : -1073741824 ≤ lo) (hhi : lo + (R : Int) ≤ 1073741824) (l : List Pt) (er : Int) (hr : makeT (hidL u d lo R a) = (l, er)) (w : World) :
    Calls Tryz.prog 83 #[rv u d, .int .i64 lo, .int .i64 (lo + (R : Int)), .int .i64 (lo + (a : Int))] w fun e w' => ∃ v' us, e = .returned (.tuple #[v', .int .i64 er]) ∧ rd us = l ∧ OwnN w' w.heap.size v' us ∧ Below w.heap.size w w' ∧ Frs w.heap.size us := by
  have HM : Hid ((u + d) * u ^ R ≤ 1073741824) := hm
  have HR : Hid (makeT (hidL u d lo R a) = (l, er)) := hr
  obtain ⟨i0, hi0, hz0, hz1, hz2⟩ := info_parts info32
  clear hm hr
  obtain ⟨w0, hw0⟩ : ∃ w0, w.alloc (.cells #[.int .i64 u, .int .i64 d] 23) = w0 := ⟨_, rfl⟩
  have hb0 : Below w.heap.size w w0 := hw0 ▸ ba w _
  have hs0 : w.heap.size < w0.heap.size := by rw [← hw0]; simp
  have p1 : w0.cell? ⟨w.heap.size, 0, none⟩ = some (.int .i64 u) := by rw [← hw0]; simp [go_sem]
  have p2 : w0.cell? ⟨w.heap.size, 1, none⟩ = some (.int .i64 d) := by rw [← hw0]; simp [go_sem]
  go_enter Tryz.func83, Tryz.ntmps83
  go_wp2_with fail
  clear hw0
  go_loopw [10, 11] (fun pv zv wr => ∃ (i : Nat) (ds : List Tr), zv = .int .i64 (lo + (i : Int)) ∧ i ≤ R + 1 ∧ Hid (rd ds = (hidL u d lo R a).take i ∧ ds.length = i) ∧ Hid (Rws wr w0.heap.size pv ds) ∧ Below w0.heap.size w0 wr) (fun _ zv _ => ((lo + (R : Int) + 1) - intOf zv).toNat)
  case atStart => exact ⟨0, [], by simp, Nat.zero_le _, ⟨by simp [rd], rfl⟩, Rws.nil _ _, Below.refl _ _⟩
  case round =>
    obtain ⟨i, ds, rfl, hit, HD, HW, hbl⟩ := hrel
    have hbs := hbl.size
    have hpl := HW.out.lt
    obtain ⟨pa, pc, rfl⟩ := HW.out.slice
    have HDL : Hid (ds.length ≤ 65) := by have := HD.out.2; show ds.length ≤ 65; omega
    by_cases h1 : i ≤ R
    · obtain ⟨M, hM⟩ : ∃ M, max (lo + (i : Int) - (lo + (a : Int))) (lo + (a : Int) - (lo + (i : Int))) = M := ⟨_, rfl⟩
      have hM0 : 0 ≤ M := by omega
      have hMR : M ≤ (R : Int) := by omega
      have HG : Hid (gk u d R (i - a + (a - i)) = powI d M * powI u (lo + (R : Int) - lo - M)) := by
        show _ = _
        unfold gk powI
        rw [show M.toNat = i - a + (a - i) by omega, show (lo + (R : Int) - lo - M).toNat = R - (i - a + (a - i)) by omega]
      have hP1 : 1 ≤ powI d M := pow_pos' hd _
      have hS1 : 1 ≤ powI u (lo + (R : Int) - lo - M) := pow_pos' (by omega) _
      have hPS1 : powI d M * powI u (lo + (R : Int) - lo - M) ≤ 1073741824 := by
        have b1 := gk_anti hd hdu (R := R) (k := 0) (s := i - a + (a - i)) (by omega)
        rw [Nat.zero_add, HG.out, gk_zero] at b1
        have b2 := pow_pos' (show 1 ≤ u by omega) R
        have b3 := Int.mul_le_mul_of_nonneg_right (show 1 ≤ u + d by omega) (show 0 ≤ u ^ R by omega)
        have := HM.out
        omega
      have hPS0 : 0 ≤ powI d M * powI u (lo + (R : Int) - lo - M) := Int.mul_nonneg (by omega) (by omega)
      have hPb : powI d M ≤ 1073741824 := by
        have := Int.mul_le_mul_of_nonneg_left hS1 (show 0 ≤ powI d M by omega); omega
      have hSb : powI u (lo + (R : Int) - lo - M) ≤ 1073741824 := by
        have := Int.mul_le_mul_of_nonneg_right hP1 (show 0 ≤ powI u (lo + (R : Int) - lo - M) by omega); omega
      have c1 : wr.cell? ⟨w.heap.size, 0, none⟩ = some (.int .i64 u) := (hbl.cell (p := ⟨w.heap.size, 0, none⟩) (by show w.heap.size < _; omega)).trans p1
      have c2 : wr.cell? ⟨w.heap.size, 1, none⟩ = some (.int .i64 d) := (hbl.cell (p := ⟨w.heap.size, 1, none⟩) (by show w.heap.size < _; omega)).trans p2
      clear HM HR
      have wE : IntKind.i64.wrap (lo + (R : Int) - lo) = lo + (R : Int) - lo := by rw [IntKind.wrap_i64]; omega
      have wF : IntKind.i64.wrap (lo + (R : Int) - lo - M) = lo + (R : Int) - lo - M := by rw [IntKind.wrap_i64]; omega
      have wP : IntKind.i64.wrap (powI d M * powI u (lo + (R : Int) - lo - M)) = powI d M * powI u (lo + (R : Int) - lo - M) := by rw [IntKind.wrap_i64]; omega
      go_wp2_with fail
      clear hM
      go_region_held3 (fun w' => w'.cell? ⟨w.heap.size, 0, none⟩ = some (.int .i64 u) ∧ w'.cell? ⟨w.heap.size, 1, none⟩ = some (.int .i64 d))
        ((go_split_ands; refine ⟨?_, ?_⟩ <;> first | assumption | (simp [go_sem, *]; done)))
        ((go_at_call 147; refine (npowJ_any _ _ ?_ ?_ ?_ ?_ _).mono ?_; (omega); (omega); (omega); (assumption); rintro x1 w1 ⟨rfl, rfl⟩))
      obtain ⟨X, hX⟩ : ∃ X, powI d M * powI u (lo + (R : Int) - lo - M) = X := ⟨_, rfl⟩
      obtain ⟨W, hW⟩ : ∃ W, wr.drew = W := ⟨_, rfl⟩
      have HBr : Hid (Below wr.heap.size wr W) := hW ▸ (Below.refl _ _).drew
      have hWs : wr.heap.size ≤ W.heap.size := HBr.out.size
      rw [hX] at HG hPS1 hPS0 ⊢
      rw [hW]
      have HBd : Hid (Below w0.heap.size w0 W) := bt hbl HBr.out
      have HWd : Hid (Rws W w0.heap.size (.slice pa ds.length pc) ds) := HW.out.keep HBr.out
      have d1 : W.cell? ⟨w.heap.size, 0, none⟩ = some (.int .i64 u) := (HBr.out.cell (p := ⟨w.heap.size, 0, none⟩) (by show w.heap.size < _; omega)).trans c1
      have d2 : W.cell? ⟨w.heap.size, 1, none⟩ = some (.int .i64 d) := (HBr.out.cell (p := ⟨w.heap.size, 1, none⟩) (by show w.heap.size < _; omega)).trans c2
      obtain ⟨mo, hmo, hmg⟩ := own_or3 (n := W.heap.size) (fun g e => by have := (hpl g e).2; omega) (by omega)
      have HMG : Hid (∀ g, (Value.slice pa ds.length pc).ownBlock = some g → mo = g) := hmg
      have HI : Hid (Ints (W.alloc (.cells #[.int .i64 (lo + (i : Int))] 3)) (W.alloc (.cells #[.int .i64 (lo + (i : Int))] 3)).heap.size mo (.slice (some ⟨W.heap.size, 0, none⟩) 1 1) [lo + (i : Int)]) := by
        have := ints_one W (lo + (i : Int)) mo (by omega)
        rw [Hid, show (W.alloc (.cells #[.int .i64 (lo + (i : Int))] 3)).heap.size = W.heap.size + 1 by simp]
        exact this
      have b1 : 0 ≤ X * u := Int.mul_nonneg hPS0 (by omega)
      have b2 : X * u ≤ 1073741824 * 1073741824 := Int.mul_le_mul hPS1 hu (by omega) (by omega)
      have b3 : 0 ≤ X * (u - d) := Int.mul_nonneg hPS0 (by omega)
      have b4 : X * (u - d) ≤ 1073741824 * 1073741824 := Int.mul_le_mul hPS1 (by omega) (by omega) (by omega)
      clear hX hW HW wE wF wP hP1 hS1 hPb hSb hpl hmg c1 c2 hM0 hMR
      by_cases e1 : i = 0
      · have y1 : (lo + (i : Int) == lo) = true := by simp; omega
        have E1 : Hid (i = 0) := e1
        clear e1
        have HO : Hid (Rws ((W.alloc (.cells #[.int .i64 (lo + (i : Int))] 3)).alloc (.cells #[.slice (some ⟨W.heap.size, 0, none⟩) 1 1, .int .i64 (X * u)] 82)) w0.heap.size (.slice pa ds.length pc) ds) := HWd.out.keep (bal (ba _ _) _)
        go_wp2_with (at_builtin; refine wpList_append_own_at _ rfl _ _ 43 rfl w0.heap.size 82 i0 (.agg #[.slice none 0 0, .int .i64 0]) 2 32 Tryz.underlying43 hi0 hz0 hz1 hz2 rfl (by decide) _ _ _ rfl HO.out.1 ⟨W.heap.size + 1, 0, none⟩ 1 1 [.slice (some ⟨W.heap.size, 0, none⟩) 1 1, .int .i64 (X * u)] rfl ?q1 ?q2 ?q3 ?q4 ?q5 ?q6 ?_)
        case q1 => rfl
        case q2 =>
          intro j u hj
          match j, hj with
          | 0, hj => simp at hj; subst hj; simp [go_sem, Addr.add]
          | 1, hj => simp at hj; subst hj; simp [go_sem, Addr.add]
        case q3 => intro u hu; simp at hu; rcases hu with rfl | rfl <;> rfl
        case q4 => have := HDL.out; simp [maxLen]; omega
        case q5 => have := HDL.out; omega
        case q6 => simp; omega
        intro v3 w3 hown3 hgrow hnil hat
        have HW3 : Hid (Rws w3 w0.heap.size v3 (ds ++ [(.slice (some ⟨W.heap.size, 0, none⟩) 1 1, [lo + (i : Int)], X * u)])) := HO.out.app hown3 hgrow (by simpa using hat) (HI.out.at2 (ba _ _)) HMG.out
        have hb3 : Below w0.heap.size w0 w3 := (bal (bal HBd.out _) _).grown hgrow (by simp; omega) (owns_block HO.out.1)
        obtain ⟨a3, c3, rfl⟩ := HW3.out.slice
        have HD3 : Hid (rd (ds ++ [((.slice (some ⟨W.heap.size, 0, none⟩) 1 1, [lo + (i : Int)], X * u) : Tr)]) = (hidL u d lo R a).take (i + 1) ∧ (ds ++ [((.slice (some ⟨W.heap.size, 0, none⟩) 1 1, [lo + (i : Int)], X * u) : Tr)]).length = i + 1) := by
          refine ⟨?_, by simp [HD.out.2]⟩
          rw [hid_take h1, ← HD.out.1]
          simp only [rd, List.map_append, List.map_cons, List.map_nil]
          rw [hwt, HG.out, if_pos (.inl E1.out)]
        clear hown3 hgrow hnil hat HO
        go_wp2
        go_roundw
        case rel => exact ⟨i + 1, _, by go_num, by omega, HD3, HW3, hb3⟩
        case measure => simp [intOf]; omega
      · by_cases e2 : i = R
        · have y1 : (lo + (i : Int) == lo) = false := by simp; omega
          have y2 : (lo + (i : Int) == lo + (R : Int)) = true := by simp; omega
          have E2 : Hid (i = R) := e2
          clear e2
          have HO : Hid (Rws ((W.alloc (.cells #[.int .i64 (lo + (i : Int))] 3)).alloc (.cells #[.slice (some ⟨W.heap.size, 0, none⟩) 1 1, .int .i64 (X * u)] 82)) w0.heap.size (.slice pa ds.length pc) ds) := HWd.out.keep (bal (ba _ _) _)
          go_wp2_with (at_builtin; refine wpList_append_own_at _ rfl _ _ 43 rfl w0.heap.size 82 i0 (.agg #[.slice none 0 0, .int .i64 0]) 2 32 Tryz.underlying43 hi0 hz0 hz1 hz2 rfl (by decide) _ _ _ rfl HO.out.1 ⟨W.heap.size + 1, 0, none⟩ 1 1 [.slice (some ⟨W.heap.size, 0, none⟩) 1 1, .int .i64 (X * u)] rfl ?q1 ?q2 ?q3 ?q4 ?q5 ?q6 ?_)
          case q1 => rfl
          case q2 =>
            intro j u hj
            match j, hj with
            | 0, hj => simp at hj; subst hj; simp [go_sem, Addr.add]
            | 1, hj => simp at hj; subst hj; simp [go_sem, Addr.add]
          case q3 => intro u hu; simp at hu; rcases hu with rfl | rfl <;> rfl
          case q4 => have := HDL.out; simp [maxLen]; omega
          case q5 => have := HDL.out; omega
          case q6 => simp; omega
          intro v3 w3 hown3 hgrow hnil hat
          have HW3 : Hid (Rws w3 w0.heap.size v3 (ds ++ [(.slice (some ⟨W.heap.size, 0, none⟩) 1 1, [lo + (i : Int)], X * u)])) := HO.out.app hown3 hgrow (by simpa using hat) (HI.out.at2 (ba _ _)) HMG.out
          have hb3 : Below w0.heap.size w0 w3 := (bal (bal HBd.out _) _).grown hgrow (by simp; omega) (owns_block HO.out.1)
          obtain ⟨a3, c3, rfl⟩ := HW3.out.slice
          have HD3 : Hid (rd (ds ++ [((.slice (some ⟨W.heap.size, 0, none⟩) 1 1, [lo + (i : Int)], X * u) : Tr)]) = (hidL u d lo R a).take (i + 1) ∧ (ds ++ [((.slice (some ⟨W.heap.size, 0, none⟩) 1 1, [lo + (i : Int)], X * u) : Tr)]).length = i + 1) := by
            refine ⟨?_, by simp [HD.out.2]⟩
            rw [hid_take h1, ← HD.out.1]
            simp only [rd, List.map_append, List.map_cons, List.map_nil]
            rw [hwt, HG.out, if_pos (.inr E2.out)]
          clear hown3 hgrow hnil hat HO
          go_wp2
          go_roundw
          case rel => exact ⟨i + 1, _, by go_num, by omega, HD3, HW3, hb3⟩
          case measure => simp [intOf]; omega
        · have y1 : (lo + (i : Int) == lo) = false := by simp; omega
          have y2 : (lo + (i : Int) == lo + (R : Int)) = false := by simp; omega
          have HO : Hid (Rws ((W.alloc (.cells #[.int .i64 (lo + (i : Int))] 3)).alloc (.cells #[.slice (some ⟨W.heap.size, 0, none⟩) 1 1, .int .i64 (X * (u - d))] 82)) w0.heap.size (.slice pa ds.length pc) ds) := HWd.out.keep (bal (ba _ _) _)
          go_wp2_with (at_builtin; refine wpList_append_own_at _ rfl _ _ 43 rfl w0.heap.size 82 i0 (.agg #[.slice none 0 0, .int .i64 0]) 2 32 Tryz.underlying43 hi0 hz0 hz1 hz2 rfl (by decide) _ _ _ rfl HO.out.1 ⟨W.heap.size + 1, 0, none⟩ 1 1 [.slice (some ⟨W.heap.size, 0, none⟩) 1 1, .int .i64 (X * (u - d))] rfl ?q1 ?q2 ?q3 ?q4 ?q5 ?q6 ?_)
          case q1 => rfl
          case q2 =>
            intro j u hj
            match j, hj with
            | 0, hj => simp at hj; subst hj; simp [go_sem, Addr.add]
            | 1, hj => simp at hj; subst hj; simp [go_sem, Addr.add]
          case q3 => intro u hu; simp at hu; rcases hu with rfl | rfl <;> rfl
          case q4 => have := HDL.out; simp [maxLen]; omega
          case q5 => have := HDL.out; omega
          case q6 => simp; omega
          intro v3 w3 hown3 hgrow hnil hat
          have HW3 : Hid (Rws w3 w0.heap.size v3 (ds ++ [(.slice (some ⟨W.heap.size, 0, none⟩) 1 1, [lo + (i : Int)], X * (u - d))])) := HO.out.app hown3 hgrow (by simpa using hat) (HI.out.at2 (ba _ _)) HMG.out
          have hb3 : Below w0.heap.size w0 w3 := (bal (bal HBd.out _) _).grown hgrow (by simp; omega) (owns_block HO.out.1)
          obtain ⟨a3, c3, rfl⟩ := HW3.out.slice
          have HD3 : Hid (rd (ds ++ [((.slice (some ⟨W.heap.size, 0, none⟩) 1 1, [lo + (i : Int)], X * (u - d)) : Tr)]) = (hidL u d lo R a).take (i + 1) ∧ (ds ++ [((.slice (some ⟨W.heap.size, 0, none⟩) 1 1, [lo + (i : Int)], X * (u - d)) : Tr)]).length = i + 1) := by
            refine ⟨?_, by simp [HD.out.2]⟩
            rw [hid_take h1, ← HD.out.1]
            simp only [rd, List.map_append, List.map_cons, List.map_nil]
            rw [hwt, HG.out, if_neg (by omega)]
          clear hown3 hgrow hnil hat HO
          go_wp2
          go_roundw
          case rel => exact ⟨i + 1, _, by go_num, by omega, HD3, HW3, hb3⟩
          case measure => simp [intOf]; omega
    · have HF : Hid (rd ds = hidL u d lo R a) := by rw [Hid, HD.out.1, hid_all (by omega)]
      have HP2 : Hid (Parts wr wr.heap.size (.slice pa ds.length pc) ds) := HW.out.parts (by have := HDL.out; omega)
      have kc := make_fr wr.heap.size (.slice pa ds.length pc) ds wr (Nat.le_refl _) HP2.out l er (by rw [HF.out]; exact HR.out)
      clear HW HD hpl HF HM HR
      go_wp2_with fail
      refine kc.mono ?_
      rintro e w5 ⟨v5, xs, rfl, k1, k2, k3, k4⟩
      obtain ⟨b5, d5, rfl⟩ := k2.slice
      clear kc
      have K4 : Hid (Frs w.heap.size xs) := k4.mono (by omega)
      have K2 : Hid (OwnN w5 w.heap.size (.slice b5 xs.length d5) xs) := k2.mono (by omega)
      have K3 : Hid (Below w.heap.size w w5) := hb0.trans ((bt hbl k3).mono hb0.size)
      have K1 : Hid (rd xs = l) := k1
      clear k1 k2 k3 k4
      go_wp2
      exact bodyPost_ret (v := .tuple #[.slice b5 xs.length d5, .int .i64 er]) (by simp [results, Tryz.results83, go_sem]) rfl ⟨_, xs, rfl, K1.out, K2.out, K3.out, K4.out⟩
end Go.Proofs.YtlndlpjadajelaaGreat
