import Derived.Test.YtlndlpjadajelaaGreatQt07
import Derived.Deep.RegionHeld3
namespace Go.Proofs.YtlndlpjadajelaaGreat
open Go.RowKit Go.Proofs.YtlndlpjadajelaaGreat.Ds

set_option maxHeartbeats 400000 in
theorem right_any (u d : Int) (b : Bool) (hb : Rt.rightB u d = b) (w : World) :
    Calls Tryz.prog 63 #[rv u d] w fun e w' => e = .returned (.bool b) ∧ Below w.heap.size w w' := by
  have HB : Hid (Rt.rightB u d = b) := hb
  clear hb
  by_cases c : 0 ≤ u ∧ u ≤ 1073741824 ∧ 1 ≤ d ∧ d ≤ 1073741824
  · obtain ⟨c1, c2, c3, c4⟩ := c
    obtain ⟨x, rfl⟩ := Int.eq_ofNat_of_zero_le c1
    obtain ⟨y, rfl⟩ := Int.eq_ofNat_of_zero_le (show 0 ≤ d by omega)
    have hbb : b = (((Nat.gcd x y : Nat) : Int) == 1) := by
      rw [← HB.out]; unfold Rt.rightB; rw [Bool.eq_iff_iff]; simp [Rt.mx]; omega
    subst hbb
    clear HB
    go_enter Tryz.func63, Tryz.ntmps63
    go_wp2_with (go_at_call 90; refine (divisor_any _ _ (by omega) (by omega) _).mono ?_; rintro e w' ⟨rfl, hbl⟩)
    go_ret
    exact ⟨rfl, bt (ba _ _) hbl⟩
  · have hbb : b = false := by
      rw [← HB.out]; unfold Rt.rightB Rt.mx; exact decide_eq_false (fun h => c ⟨h.1, h.2.1, h.2.2.1, h.2.2.2.1⟩)
    subst hbb
    clear HB
    by_cases c1 : u < 0
    · clear c
      go_enter Tryz.func63, Tryz.ntmps63
      go_wp2
      go_ret
      exact ⟨rfl, ba _ _⟩
    by_cases c2 : 1073741824 < u
    · clear c
      go_enter Tryz.func63, Tryz.ntmps63
      go_wp2
      go_ret
      exact ⟨rfl, ba _ _⟩
    by_cases c3 : d < 1
    · clear c
      go_enter Tryz.func63, Tryz.ntmps63
      go_wp2
      go_ret
      exact ⟨rfl, ba _ _⟩
    · have c4 : 1073741824 < d := by omega
      clear c
      go_enter Tryz.func63, Tryz.ntmps63
      go_wp2
      go_ret
      exact ⟨rfl, ba _ _⟩

set_option maxHeartbeats 400000 in
theorem refRight_any (u d : Int) (b : Bool) (hb : Rt.rightB u d = b) (w : World) :
    Calls Tryz.prog 42 #[rv u d] w fun e w' => e = .returned (.bool b) ∧ Below w.heap.size w w' := by
  have HB : Hid (Rt.rightB u d = b) := hb
  clear hb
  by_cases c : 0 ≤ u ∧ u ≤ 1073741824 ∧ 1 ≤ d ∧ d ≤ 1073741824
  · obtain ⟨c1, c2, c3, c4⟩ := c
    obtain ⟨x, rfl⟩ := Int.eq_ofNat_of_zero_le c1
    obtain ⟨y, rfl⟩ := Int.eq_ofNat_of_zero_le (show 0 ≤ d by omega)
    have hbb : b = (((Nat.gcd x y : Nat) : Int) == 1) := by
      rw [← HB.out]; unfold Rt.rightB; rw [Bool.eq_iff_iff]; simp [Rt.mx]; omega
    subst hbb
    clear HB
    go_enter Tryz.func42, Tryz.ntmps42
    go_wp2_with (go_at_call 56; refine (refDivisor_any _ _ (by omega) (by omega) (by omega) _).mono ?_; rintro e w' ⟨rfl, rfl⟩)
    go_ret
    exact ⟨rfl, ba _ _⟩
  · have hbb : b = false := by
      rw [← HB.out]; unfold Rt.rightB Rt.mx; exact decide_eq_false (fun h => c ⟨h.1, h.2.1, h.2.2.1, h.2.2.2.1⟩)
    subst hbb
    clear HB
    by_cases c1 : u < 0
    · clear c
      go_enter Tryz.func42, Tryz.ntmps42
      go_wp2
      go_ret
      exact ⟨rfl, ba _ _⟩
    by_cases c3 : d < 1
    · clear c
      go_enter Tryz.func42, Tryz.ntmps42
      go_wp2
      go_ret
      exact ⟨rfl, ba _ _⟩
    by_cases c2 : 1073741824 < u
    · clear c
      go_enter Tryz.func42, Tryz.ntmps42
      go_wp2
      go_ret
      exact ⟨rfl, ba _ _⟩
    · have c4 : 1073741824 < d := by omega
      clear c
      go_enter Tryz.func42, Tryz.ntmps42
      go_wp2
      go_ret
      exact ⟨rfl, ba _ _⟩

theorem timesLit (a b c d : Int) (p q : Nat) (w : World) (a1 : 0 ≤ a) (a2 : a ≤ 1073741824) (b1 : 1 ≤ b) (b2 : b ≤ 1073741824) (c1 : 0 ≤ c) (c2 : c ≤ 1073741824) (d1 : 1 ≤ d) (d2 : d ≤ 1073741824)
    (k1 : w.cell? ⟨p, 0, none⟩ = some (.int .i64 a)) (k2 : w.cell? ⟨p, 1, none⟩ = some (.int .i64 b)) (k3 : w.cell? ⟨q, 0, none⟩ = some (.int .i64 c)) (k4 : w.cell? ⟨q, 1, none⟩ = some (.int .i64 d)) :
    Calls Tryz.prog 118 #[.pointer (some ⟨p, 0, none⟩), .pointer (some ⟨q, 0, none⟩)] w fun x w' => x = .returned (.tuple #[.int .i64 (a * c), .int .i64 (b * d)]) ∧ Below w.heap.size w w' := by
  obtain ⟨p1, p2⟩ := Rt.mul_bd a1 a2 c1 c2
  obtain ⟨p3, p4⟩ := Rt.mul_bd (a := b) (b := d) (by omega) b2 (by omega) d2
  obtain ⟨p5, p6⟩ := Rt.mul_bd (a := a) (b := d) (by omega) a2 (by omega) d2
  obtain ⟨p7, p8⟩ := Rt.mul_bd (a := c) (b := b) (by omega) c2 (by omega) b2
  obtain ⟨p9, p10⟩ := Rt.mul_bd (a := b) (b := c) (by omega) b2 (by omega) c2
  go_enter Tryz.func118, Tryz.ntmps118
  go_wp2
  go_quiet (fail)
  go_wp2
  go_ret2
  exact ⟨rfl, below_drewN (Below.refl _ _) _⟩

set_option maxHeartbeats 400000 in
theorem timesReckon (a b c d n m e : Int) (r1 : Rt.rightB a b = true) (r2 : Rt.rightB c d = true) (hm : Rt.mkT (a * c) (b * d) = (n, m, e)) (p q : Nat) (w : World) (hp : p < w.heap.size) (hq : q < w.heap.size)
    (k1 : w.cell? ⟨p, 0, none⟩ = some (.int .i64 a)) (k2 : w.cell? ⟨p, 1, none⟩ = some (.int .i64 b)) (k3 : w.cell? ⟨q, 0, none⟩ = some (.int .i64 c)) (k4 : w.cell? ⟨q, 1, none⟩ = some (.int .i64 d)) :
    Calls Tryz.prog 117 #[rv a b, rv c d, .func (.func 118) #[] #[.pointer (some ⟨p, 0, none⟩), .pointer (some ⟨q, 0, none⟩)]] w fun x w' => x = .returned (.tuple #[rv n m, .int .i64 e]) ∧ Below w.heap.size w w' := by
  have HM : Hid (Rt.mkT (a * c) (b * d) = (n, m, e)) := hm
  have R1 : Hid (Rt.rightB a b = true) := r1
  have R2 : Hid (Rt.rightB c d = true) := r2
  obtain ⟨a1, a2, b1, b2⟩ := Rt.right_bd r1
  obtain ⟨c1, c2, d1, d2⟩ := Rt.right_bd r2
  clear r1 r2 hm
  obtain ⟨p1, p2⟩ := Rt.mul_bd a1 a2 c1 c2
  obtain ⟨p3, p4⟩ := Rt.mul_bd (a := b) (b := d) (by omega) b2 (by omega) d2
  obtain ⟨p5, p6⟩ := Rt.mul_bd (a := a) (b := d) (by omega) a2 (by omega) d2
  obtain ⟨p7, p8⟩ := Rt.mul_bd (a := c) (b := b) (by omega) c2 (by omega) b2
  obtain ⟨p9, p10⟩ := Rt.mul_bd (a := b) (b := c) (by omega) b2 (by omega) c2
  go_enter Tryz.func117, Tryz.ntmps117
  go_wp2_with fail
  refine (right_any a b true R1.out _).mono ?_
  rintro e1 w1 ⟨rfl, hb1⟩
  obtain ⟨hc1, hf1⟩ := bcell hb1
  go_wp2_with fail
  refine (right_any c d true R2.out _).mono ?_
  rintro e2 w2 ⟨rfl, hb2⟩
  have F2 := bt hb1 hb2
  clear hc1 hf1 hb1 hb2
  have G2 := bt (bal (bal (ba _ _) _) _) F2
  go_wp2_with fail
  refine (timesLit a b c d p q _ a1 a2 b1 b2 c1 c2 d1 d2 ((G2.cell (p := ⟨p, 0, none⟩) hp).trans k1) ((G2.cell (p := ⟨p, 1, none⟩) hp).trans k2) ((G2.cell (p := ⟨q, 0, none⟩) hq).trans k3) ((G2.cell (p := ⟨q, 1, none⟩) hq).trans k4)).mono ?_
  rintro e3 w3 ⟨rfl, hb3⟩
  go_wp2_with fail
  refine (rmake_any (a * c) (b * d) n m e (by omega) (by omega) HM.out _).mono ?_
  rintro e4 w4 ⟨rfl, hb4⟩
  have F4 := bt (bt F2 hb3) hb4
  have G4 := bt (bal (bal (ba _ _) _) _) F4
  clear F2 hb3 hb4 G2
  obtain ⟨hc4, hf4⟩ := bcell F4
  go_wp2_with fail
  exact bodyPost_ret (v := .tuple #[rv n m, .int .i64 e]) (by simp [results, Tryz.results117, go_sem, hc4]) rfl ⟨rfl, bs (bs G4 (by simp; omega) _) (by simp; omega) _⟩

set_option maxHeartbeats 400000 in
theorem reckonNo (a b c d : Int) (f : Value) (h : Rt.rightB a b = false ∨ (Rt.rightB a b = true ∧ Rt.rightB c d = false)) (w : World) :
    Calls Tryz.prog 117 #[rv a b, rv c d, f] w fun x w' => x = .returned (.tuple #[rv 0 0, .int .i64 2]) ∧ Below w.heap.size w w' := by
  rcases h with r1 | ⟨r1, r2⟩
  · have R1 : Hid (Rt.rightB a b = false) := r1
    clear r1
    go_enter Tryz.func117, Tryz.ntmps117
    go_wp2_with fail
    refine (right_any a b false R1.out _).mono ?_
    rintro e1 w1 ⟨rfl, hb1⟩
    have G1 := bt (bal (bal (ba _ _) _) _) hb1
    obtain ⟨hc1, hf1⟩ := bcell hb1
    go_wp2_with fail
    exact bodyPost_ret (v := .tuple #[rv 0 0, .int .i64 2]) (by simp [results, Tryz.results117, go_sem, hc1]) rfl ⟨rfl, bs (bs G1 (by simp; omega) _) (by simp; omega) _⟩
  · have R1 : Hid (Rt.rightB a b = true) := r1
    have R2 : Hid (Rt.rightB c d = false) := r2
    clear r1 r2
    go_enter Tryz.func117, Tryz.ntmps117
    go_wp2_with fail
    refine (right_any a b true R1.out _).mono ?_
    rintro e1 w1 ⟨rfl, hb1⟩
    obtain ⟨hc1, hf1⟩ := bcell hb1
    go_wp2_with fail
    refine (right_any c d false R2.out _).mono ?_
    rintro e2 w2 ⟨rfl, hb2⟩
    have F2 := bt hb1 hb2
    clear hc1 hf1 hb1 hb2
    have G2 := bt (bal (bal (ba _ _) _) _) F2
    obtain ⟨hc1, hf1⟩ := bcell F2
    go_wp2_with fail
    exact bodyPost_ret (v := .tuple #[rv 0 0, .int .i64 2]) (by simp [results, Tryz.results117, go_sem, hc1]) rfl ⟨rfl, bs (bs G2 (by simp; omega) _) (by simp; omega) _⟩

set_option maxHeartbeats 400000 in
theorem times_any (a b c d n m e : Int) (h : Rt.timesT a b c d = (n, m, e)) (w : World) :
    Calls Tryz.prog 64 #[rv a b, rv c d] w fun x w' => x = .returned (.tuple #[rv n m, .int .i64 e]) ∧ Below w.heap.size w w' := by
  have H : Hid (Rt.timesT a b c d = (n, m, e)) := h
  clear h
  by_cases r : Rt.rightB a b = true ∧ Rt.rightB c d = true
  · obtain ⟨r1, r2⟩ := r
    have hm : Rt.mkT (a * c) (b * d) = (n, m, e) := by rw [← H.out]; unfold Rt.timesT; rw [if_pos ⟨r1, r2⟩]
    have HM : Hid (Rt.mkT (a * c) (b * d) = (n, m, e)) := hm
    have R1 : Hid (Rt.rightB a b = true) := r1
    have R2 : Hid (Rt.rightB c d = true) := r2
    clear hm r1 r2 H
    go_enter Tryz.func64, Tryz.ntmps64
    go_wp2_with fail
    refine (timesReckon a b c d n m e R1.out R2.out HM.out w.heap.size (w.heap.size + 1) _ (by simp <;> omega) (by simp <;> omega) (by simp [go_sem]) (by simp [go_sem]) (by simp [go_sem]) (by simp [go_sem])).mono ?_
    rintro e1 w1 ⟨rfl, hb1⟩
    have G1 := bt (bal (bal (ba _ _) _) _) hb1
    obtain ⟨hc1, hf1⟩ := bcell hb1
    go_wp2_with fail
    exact bodyPost_ret (v := .tuple #[rv n m, .int .i64 e]) (by simp [results, Tryz.results64, go_sem, hc1]) rfl ⟨rfl, bs (bs G1 (by simp; omega) _) (by simp; omega) _⟩
  · have hr : (0, 0, 2) = (n, m, e) := by rw [← H.out]; unfold Rt.timesT; rw [if_neg r]
    simp only [Prod.mk.injEq] at hr
    obtain ⟨rfl, rfl, rfl⟩ := hr
    have r' : Rt.rightB a b = false ∨ (Rt.rightB a b = true ∧ Rt.rightB c d = false) := by
      cases h1 : Rt.rightB a b <;> cases h2 : Rt.rightB c d <;> simp_all
    have R : Hid (Rt.rightB a b = false ∨ (Rt.rightB a b = true ∧ Rt.rightB c d = false)) := r'
    clear r r' H
    go_enter Tryz.func64, Tryz.ntmps64
    go_wp2_with fail
    refine (reckonNo a b c d _ R.out _).mono ?_
    rintro e1 w1 ⟨rfl, hb1⟩
    have G1 := bt (bal (bal (ba _ _) _) _) hb1
    obtain ⟨hc1, hf1⟩ := bcell hb1
    go_wp2_with fail
    exact bodyPost_ret (v := .tuple #[rv 0 0, .int .i64 2]) (by simp [results, Tryz.results64, go_sem, hc1]) rfl ⟨rfl, bs (bs G1 (by simp; omega) _) (by simp; omega) _⟩
end Go.Proofs.YtlndlpjadajelaaGreat

namespace Go.Proofs.YtlndlpjadajelaaGreat
open Go.RowKit Go.Proofs.YtlndlpjadajelaaGreat.Ds

set_option maxHeartbeats 400000 in
theorem powerNo_any (a b n : Int) (h : Rt.rightB a b = false) (w : World) :
    Calls Tryz.prog 25 #[rv a b, .int .i64 n] w fun x w' => x = .returned (.tuple #[rv 0 0, .int .i64 2]) ∧ Below w.heap.size w w' := by
  have H : Hid (Rt.rightB a b = false) := h
  clear h
  go_enter Tryz.func25, Tryz.ntmps25
  go_wp2_with fail
  refine (right_any a b false H.out _).mono ?_
  rintro e1 w1 ⟨rfl, hb1⟩
  have G1 := bt (bal (ba _ _) _) hb1
  obtain ⟨hc1, hf1⟩ := bcell hb1
  go_wp2_with fail
  exact bodyPost_ret (v := .tuple #[rv 0 0, .int .i64 2]) (by simp [results, Tryz.results25, go_sem, hc1]) rfl ⟨rfl, bs (bs G1 (by simp) _) (by simp) _⟩

set_option maxHeartbeats 400000 in
theorem powerRange_any (a b n : Int) (h : Rt.rightB a b = true) (hn : n < 0 ∨ 4096 < n) (w : World) :
    Calls Tryz.prog 25 #[rv a b, .int .i64 n] w fun x w' => x = .returned (.tuple #[rv 0 0, .int .i64 3]) ∧ Below w.heap.size w w' := by
  have H : Hid (Rt.rightB a b = true) := h
  clear h
  have hn' : n < 0 ∨ (¬ n < 0 ∧ 4096 < n) := by omega
  clear hn
  rcases hn' with hn | ⟨hn1, hn⟩
  all_goals
    go_enter Tryz.func25, Tryz.ntmps25
    go_wp2_with fail
    refine (right_any a b true H.out _).mono ?_
    rintro e1 w1 ⟨rfl, hb1⟩
    have G1 := bt (bal (ba _ _) _) hb1
    obtain ⟨hc1, hf1⟩ := bcell hb1
    go_wp2_with fail
    exact bodyPost_ret (v := .tuple #[rv 0 0, .int .i64 3]) (by simp [results, Tryz.results25, go_sem, hc1]) rfl ⟨rfl, bs (bs G1 (by simp) _) (by simp) _⟩

set_option maxHeartbeats 400000 in
theorem powerYes_any (x y n : Nat) (h : Rt.rightB x y = true) (hn : n ≤ 4096) (p q e : Int) (hp : Rt.powT x y n = (p, q, e)) (w : World) :
    Calls Tryz.prog 25 #[rv x y, .int .i64 n] w fun x w' => x = .returned (.tuple #[rv p q, .int .i64 e]) ∧ Below w.heap.size w w' := by
  have H : Hid (Rt.rightB x y = true) := h
  have HP : Hid (Rt.powT x y n = (p, q, e)) := hp
  clear h hp
  go_enter Tryz.func25, Tryz.ntmps25
  go_wp2_with fail
  refine (right_any x y true H.out _).mono ?_
  rintro e1 w1 ⟨rfl, hb1⟩
  have G1 := bt (bal (ba _ _) _) hb1
  obtain ⟨hc1, hf1⟩ := bcell hb1
  go_wp2_with fail
  have hz1 : w.heap.size < w1.heap.size := by have := hb1.size; simp at this; omega
  have hz1' : w.heap.size + 1 < w1.heap.size := by have := hb1.size; simp at this; omega
  go_loopw [21] (fun c wr => ∃ i : Nat, i ≤ n ∧ c = .int .i64 (i : Int) ∧ x ^ i ≤ 1073741824 ∧ y ^ i ≤ 1073741824 ∧ Below w1.heap.size w1 wr ∧ w1.heap.size < wr.heap.size ∧ wr.cell? ⟨w1.heap.size, 0, none⟩ = some (.int .i64 ((x ^ i : Nat) : Int)) ∧ wr.cell? ⟨w1.heap.size, 1, none⟩ = some (.int .i64 ((y ^ i : Nat) : Int)) ∧ wr.frozen? ⟨w1.heap.size, 0, none⟩ = false ∧ wr.frozen? ⟨w1.heap.size, 1, none⟩ = false) (fun c _ => n - (intOf c).toNat)
  case atStart => exact ⟨0, by omega, rfl, by simp, by simp, ba _ _, by simp, by simp [go_sem], by simp [go_sem], by simp [go_sem], by simp [go_sem]⟩
  case round =>
    obtain ⟨i, hi, rfl, hx, hy, hbr, hzr, hr0, hr1, hr2, hr3⟩ := hrel
    have F1 := bt hb1 hbr
    have k0 : wr.cell? ⟨w.heap.size, 0, none⟩ = some (.int .i64 (x : Int)) := by rw [F1.cell (p := ⟨w.heap.size, 0, none⟩) (by simp <;> omega)]; simp [go_sem]
    have k1 : wr.cell? ⟨w.heap.size, 1, none⟩ = some (.int .i64 (y : Int)) := by rw [F1.cell (p := ⟨w.heap.size, 1, none⟩) (by simp <;> omega)]; simp [go_sem]
    have HT := Rt.times_pow x y i H.out hx hy
    generalize hX : x ^ i = X at *
    generalize hY : y ^ i = Y at *
    have HX : Hid (x ^ i = X) := hX
    have HY : Hid (y ^ i = Y) := hY
    clear hX hY
    by_cases c0 : i < n
    · by_cases c1 : x ^ (i + 1) ≤ 1073741824 ∧ y ^ (i + 1) ≤ 1073741824
      · rw [if_pos c1] at HT
        have HT' : Hid (Rt.timesT (X : Int) (Y : Int) x y = (((x ^ (i + 1) : Nat) : Int), ((y ^ (i + 1) : Nat) : Int), 0)) := HT
        clear HT
        obtain ⟨c1, c2⟩ := c1
        generalize hX : x ^ (i + 1) = X' at *
        generalize hY : y ^ (i + 1) = Y' at *
        have HX' : Hid (x ^ (i + 1) = X') := hX
        have HY' : Hid (y ^ (i + 1) = Y') := hY
        clear hX hY
        go_wp2_with fail
        refine (times_any X Y x y X' Y' 0 HT'.out _).mono ?_
        rintro e2 w2 ⟨rfl, hb2⟩
        obtain ⟨hc2, hf2⟩ := bcell hb2
        go_wp2_with fail
        have hz2 := hb2.size
        refine ⟨⟨i + 1, by omega, by go_num, by rw [HX'.out]; exact c1, by rw [HY'.out]; exact c2, ?_, ?_, ?_, ?_, ?_, ?_⟩, ?_⟩
        · exact ((hbr.trans (hb2.mono (by omega))).setCell (Nat.le_refl _) _).setCell (Nat.le_refl _) _
        · simp; omega
        · rw [HX'.out]; simp [go_sem, hc2, hzr, hr0]
        · rw [HY'.out]; simp [go_sem, hc2, hzr, hr1]
        · simp [go_sem, hf2, hzr, hr2]
        · simp [go_sem, hf2, hzr, hr3]
        · simp [intOf]; omega
      · rw [if_neg c1] at HT
        have HT' : Hid (Rt.timesT (X : Int) (Y : Int) x y = (0, 0, 4)) := HT
        clear HT
        have hgt : 1073741824 < x ^ n ∨ 1073741824 < y ^ n := by
          by_cases g : 1073741824 < x ^ (i + 1)
          · exact .inl (Rt.pow_gt x (i + 1) n (by omega) g)
          · exact .inr (Rt.pow_gt y (i + 1) n (by omega) (by omega))
        have hp := Rt.powT_of x y n H.out hn p q e HP.out
        have hp' : 0 = p ∧ 0 = q ∧ 4 = e := by
          rcases hp with ⟨_, h1⟩ | ⟨h1, h2, _⟩
          · exact h1
          · omega
        clear hp hgt c1 HP
        obtain ⟨rfl, rfl, rfl⟩ := hp'
        have hb0 := bt G1 hbr
        go_wp2_with fail
        refine (times_any X Y x y 0 0 4 HT'.out _).mono ?_
        rintro e2 w2 ⟨rfl, hb2⟩
        obtain ⟨hc2, hf2⟩ := bcell hb2
        have k4 : w2.cell? ⟨w.heap.size + 1, 0, none⟩ = some (.int .i64 0) := by rw [hc2 _ _ (by omega), F1.cell (p := ⟨w.heap.size + 1, 0, none⟩) (by simp)]; simp [go_sem]
        have k5 : w2.cell? ⟨w.heap.size + 1, 1, none⟩ = some (.int .i64 0) := by rw [hc2 _ _ (by omega), F1.cell (p := ⟨w.heap.size + 1, 1, none⟩) (by simp)]; simp [go_sem]
        have k6 : w2.frozen? ⟨w.heap.size + 1, 0, none⟩ = false := by rw [hf2 _ _ (by omega), F1.frozen (p := ⟨w.heap.size + 1, 0, none⟩) (by simp)]; simp [go_sem]
        have k7 : w2.frozen? ⟨w.heap.size + 1, 1, none⟩ = false := by rw [hf2 _ _ (by omega), F1.frozen (p := ⟨w.heap.size + 1, 1, none⟩) (by simp)]; simp [go_sem]
        have hne : ¬ w1.heap.size = w.heap.size + 1 := by omega
        have hne' : ¬ w.heap.size + 1 = w1.heap.size := by omega
        go_wp2_with fail
        exact bodyPost_ret (v := .tuple #[rv 0 0, .int .i64 4]) (by simp [results, Tryz.results25, go_sem, k4, k5]) rfl ⟨rfl, bs (bs (bs (bs (bt hb0 hb2) (by simp; omega) _) (by simp; omega) _) (by simp) _) (by simp) _⟩
    · have hin : i = n := by omega
      subst hin
      clear HT
      have hp := Rt.powT_of x y i H.out hn p q e HP.out
      rw [HX.out, HY.out] at hp
      have hp' : (X : Int) = p ∧ (Y : Int) = q ∧ 0 = e := by
        rcases hp with ⟨_, h1⟩ | ⟨h1, h2, h3⟩
        · omega
        · exact h3
      clear hp HP
      obtain ⟨rfl, rfl, rfl⟩ := hp'
      have hb0 := bt G1 hbr
      have k4 : wr.cell? ⟨w.heap.size + 1, 0, none⟩ = some (.int .i64 0) := by rw [F1.cell (p := ⟨w.heap.size + 1, 0, none⟩) (by simp)]; simp [go_sem]
      have k5 : wr.cell? ⟨w.heap.size + 1, 1, none⟩ = some (.int .i64 0) := by rw [F1.cell (p := ⟨w.heap.size + 1, 1, none⟩) (by simp)]; simp [go_sem]
      have k6 : wr.frozen? ⟨w.heap.size + 1, 0, none⟩ = false := by rw [F1.frozen (p := ⟨w.heap.size + 1, 0, none⟩) (by simp)]; simp [go_sem]
      have k7 : wr.frozen? ⟨w.heap.size + 1, 1, none⟩ = false := by rw [F1.frozen (p := ⟨w.heap.size + 1, 1, none⟩) (by simp)]; simp [go_sem]
      go_wp2_with fail
      exact bodyPost_ret (v := .tuple #[rv X Y, .int .i64 0]) (by simp [results, Tryz.results25, go_sem, k4, k5]) rfl ⟨rfl, bs (bs hb0 (by simp) _) (by simp) _⟩

theorem power_any (a b n p q e : Int) (h : Rt.powT a b n = (p, q, e)) (w : World) :
    Calls Tryz.prog 25 #[rv a b, .int .i64 n] w fun x w' => x = .returned (.tuple #[rv p q, .int .i64 e]) ∧ Below w.heap.size w w' := by
  cases r : Rt.rightB a b with
  | false =>
    unfold Rt.powT at h
    rw [if_neg (by simp [r])] at h
    simp only [Prod.mk.injEq] at h
    obtain ⟨rfl, rfl, rfl⟩ := h
    exact powerNo_any a b n r w
  | true =>
    by_cases hn : n < 0 ∨ 4096 < n
    · unfold Rt.powT at h
      rw [if_pos r, if_pos hn] at h
      simp only [Prod.mk.injEq] at h
      obtain ⟨rfl, rfl, rfl⟩ := h
      exact powerRange_any a b n r hn w
    · obtain ⟨a1, a2, b1, b2⟩ := Rt.right_bd r
      obtain ⟨x, rfl⟩ := Int.eq_ofNat_of_zero_le a1
      obtain ⟨y, rfl⟩ := Int.eq_ofNat_of_zero_le (show 0 ≤ b by omega)
      obtain ⟨m, rfl⟩ := Int.eq_ofNat_of_zero_le (show 0 ≤ n by omega)
      exact powerYes_any x y m r (by omega) p q e h w

set_option maxHeartbeats 400000 in
theorem refPowerNo_any (a b n : Int) (h : Rt.rightB a b = false) (w : World) :
    Calls Tryz.prog 19 #[rv a b, .int .i64 n] w fun x w' => x = .returned (.tuple #[rv 0 0, .int .i64 2]) ∧ Below w.heap.size w w' := by
  have H : Hid (Rt.rightB a b = false) := h
  clear h
  go_enter Tryz.func19, Tryz.ntmps19
  go_wp2_with fail
  refine (refRight_any a b false H.out _).mono ?_
  rintro e1 w1 ⟨rfl, hb1⟩
  have G1 := bt (bal (ba _ _) _) hb1
  obtain ⟨hc1, hf1⟩ := bcell hb1
  go_wp2_with fail
  exact bodyPost_ret (v := .tuple #[rv 0 0, .int .i64 2]) (by simp [results, Tryz.results19, go_sem, hc1]) rfl ⟨rfl, bs (bs G1 (by simp) _) (by simp) _⟩

set_option maxHeartbeats 400000 in
theorem refPowerRange_any (a b n : Int) (h : Rt.rightB a b = true) (hn : n < 0 ∨ 4096 < n) (w : World) :
    Calls Tryz.prog 19 #[rv a b, .int .i64 n] w fun x w' => x = .returned (.tuple #[rv 0 0, .int .i64 3]) ∧ Below w.heap.size w w' := by
  have H : Hid (Rt.rightB a b = true) := h
  clear h
  have hn' : n < 0 ∨ (¬ n < 0 ∧ 4096 < n) := by omega
  clear hn
  rcases hn' with hn | ⟨hn1, hn⟩
  all_goals
    go_enter Tryz.func19, Tryz.ntmps19
    go_wp2_with fail
    refine (refRight_any a b true H.out _).mono ?_
    rintro e1 w1 ⟨rfl, hb1⟩
    have G1 := bt (bal (ba _ _) _) hb1
    obtain ⟨hc1, hf1⟩ := bcell hb1
    go_wp2_with fail
    exact bodyPost_ret (v := .tuple #[rv 0 0, .int .i64 3]) (by simp [results, Tryz.results19, go_sem, hc1]) rfl ⟨rfl, bs (bs G1 (by simp) _) (by simp) _⟩

set_option maxHeartbeats 400000 in
theorem refPowerYes_any (x y n : Nat) (h : Rt.rightB x y = true) (hn : n ≤ 4096) (p q e : Int) (hp : Rt.powT x y n = (p, q, e)) (w : World) :
    Calls Tryz.prog 19 #[rv x y, .int .i64 n] w fun x w' => x = .returned (.tuple #[rv p q, .int .i64 e]) ∧ Below w.heap.size w w' := by
  have H : Hid (Rt.rightB x y = true) := h
  have HP : Hid (Rt.powT x y n = (p, q, e)) := hp
  clear h hp
  have hr0 := (Rt.right_nat x y).1 H.out
  obtain ⟨hx0, hy1, hy0, hg0⟩ := hr0
  have HG0 : Hid (Nat.gcd x y = 1) := hg0
  clear hg0
  go_enter Tryz.func19, Tryz.ntmps19
  go_wp2_with fail
  refine (refRight_any x y true H.out _).mono ?_
  rintro e1 w1 ⟨rfl, hb1⟩
  have G1 := bt (bal (ba _ _) _) hb1
  obtain ⟨hc1, hf1⟩ := bcell hb1
  go_wp2_with fail
  go_loopw [6, 7, 8] (fun u d c wr => ∃ i : Nat, i ≤ n ∧ c = .int .i64 (i : Int) ∧ u = .int .i64 ((x ^ i : Nat) : Int) ∧ d = .int .i64 ((y ^ i : Nat) : Int) ∧ x ^ i ≤ 1073741824 ∧ y ^ i ≤ 1073741824 ∧ Below w1.heap.size w1 wr) (fun _ _ c _ => n - (intOf c).toNat)
  case atStart => exact ⟨0, by omega, rfl, by simp, by simp, by simp, by simp, Below.refl _ _⟩
  case round =>
    obtain ⟨i, hi, rfl, rfl, rfl, hx, hy, hbr⟩ := hrel
    have F1 := bt hb1 hbr
    have hb0 := bt G1 hbr
    have k0 : wr.cell? ⟨w.heap.size, 0, none⟩ = some (.int .i64 (x : Int)) := by rw [F1.cell (p := ⟨w.heap.size, 0, none⟩) (by simp <;> omega)]; simp [go_sem]
    have k1 : wr.cell? ⟨w.heap.size, 1, none⟩ = some (.int .i64 (y : Int)) := by rw [F1.cell (p := ⟨w.heap.size, 1, none⟩) (by simp <;> omega)]; simp [go_sem]
    have k4 : wr.cell? ⟨w.heap.size + 1, 0, none⟩ = some (.int .i64 0) := by rw [F1.cell (p := ⟨w.heap.size + 1, 0, none⟩) (by simp)]; simp [go_sem]
    have k5 : wr.cell? ⟨w.heap.size + 1, 1, none⟩ = some (.int .i64 0) := by rw [F1.cell (p := ⟨w.heap.size + 1, 1, none⟩) (by simp)]; simp [go_sem]
    have k6 : wr.frozen? ⟨w.heap.size + 1, 0, none⟩ = false := by rw [F1.frozen (p := ⟨w.heap.size + 1, 0, none⟩) (by simp)]; simp [go_sem]
    have k7 : wr.frozen? ⟨w.heap.size + 1, 1, none⟩ = false := by rw [F1.frozen (p := ⟨w.heap.size + 1, 1, none⟩) (by simp)]; simp [go_sem]
    have HX1 : Hid (x ^ (i + 1) = x ^ i * x) := Nat.pow_succ x i
    have HY1 : Hid (y ^ (i + 1) = y ^ i * y) := Nat.pow_succ y i
    have hup := Rt.mul_bd (a := ((x ^ i : Nat) : Int)) (b := (x : Int)) (by omega) (by omega) (by omega) (by omega)
    have hdn := Rt.mul_bd (a := ((y ^ i : Nat) : Int)) (b := (y : Int)) (by omega) (by omega) (by omega) (by omega)
    obtain ⟨hu1, hu2⟩ := hup
    obtain ⟨hd1, hd2⟩ := hdn
    clear F1 hc1 hf1
    by_cases c0 : i < n
    · have c0' : (i : Int) < (n : Int) := by omega
      by_cases c1 : x ^ (i + 1) ≤ 1073741824 ∧ y ^ (i + 1) ≤ 1073741824
      · obtain ⟨c1, c2⟩ := c1
        rw [HX1.out] at c1
        rw [HY1.out] at c2
        have c1' : ((x ^ i : Nat) : Int) * (x : Int) ≤ 1073741824 := by rw [← Int.natCast_mul]; omega
        have c2' : ((y ^ i : Nat) : Int) * (y : Int) ≤ 1073741824 := by rw [← Int.natCast_mul]; omega
        clear c1 c2
        generalize hX : x ^ i = X at *
        generalize hY : y ^ i = Y at *
        have HX : Hid (x ^ i = X) := hX
        have HY : Hid (y ^ i = Y) := hY
        clear hX hY
        go_wp2_with fail
        go_quiet (fail)
        go_wp2_with fail
        refine ⟨⟨i + 1, by omega, by go_num, ?_, ?_, ?_, ?_, below_drewN hbr nq⟩, by simp [intOf]; omega⟩
        · rw [HX1.out, Int.natCast_mul]
        · rw [HY1.out, Int.natCast_mul]
        · rw [HX1.out]; rw [← Int.natCast_mul] at c1'; omega
        · rw [HY1.out]; rw [← Int.natCast_mul] at c2'; omega
      · have hgt : 1073741824 < x ^ n ∨ 1073741824 < y ^ n := by
          by_cases g : 1073741824 < x ^ (i + 1)
          · exact .inl (Rt.pow_gt x (i + 1) n (by omega) g)
          · exact .inr (Rt.pow_gt y (i + 1) n (by omega) (by omega))
        have hp := Rt.powT_of x y n H.out hn p q e HP.out
        have hp' : 0 = p ∧ 0 = q ∧ 4 = e := by
          rcases hp with ⟨_, h1⟩ | ⟨h1, h2, _⟩
          · exact h1
          · omega
        clear hp hgt HP
        obtain ⟨rfl, rfl, rfl⟩ := hp'
        rw [HX1.out, HY1.out] at c1
        have c1' : 1073741824 < ((x ^ i : Nat) : Int) * (x : Int) ∨ (((x ^ i : Nat) : Int) * (x : Int) ≤ 1073741824 ∧ 1073741824 < ((y ^ i : Nat) : Int) * (y : Int)) := by
          rw [← Int.natCast_mul, ← Int.natCast_mul]; omega
        clear c1
        generalize hX : x ^ i = X at *
        generalize hY : y ^ i = Y at *
        clear hX hY
        rcases c1' with c1 | ⟨c1, c2⟩
        all_goals
          go_wp2_with fail
          go_quiet (fail)
          go_wp2_with fail
          exact bodyPost_ret (v := .tuple #[rv 0 0, .int .i64 4]) (by simp [results, Tryz.results19, go_sem, k4, k5]) rfl ⟨rfl, bs (bs (below_drewN hb0 _) (by simp) _) (by simp) _⟩
    · have hin : i = n := by omega
      subst hin
      have hp := Rt.powT_of x y i H.out hn p q e HP.out
      have hp' : ((x ^ i : Nat) : Int) = p ∧ ((y ^ i : Nat) : Int) = q ∧ 0 = e := by
        rcases hp with ⟨_, h1⟩ | ⟨h1, h2, h3⟩
        · omega
        · exact h3
      clear hp HP
      have hone : x ^ i = 0 → y ^ i = 1 := by
        intro hz
        have hx00 : x = 0 := Nat.pow_eq_zero.1 hz |>.1
        have := HG0.out
        rw [hx00, Nat.gcd_zero_left] at this
        rw [this, Nat.one_pow]
      obtain ⟨he1, he2, rfl⟩ := hp'
      generalize hX : x ^ i = X at *
      generalize hY : y ^ i = Y at *
      clear hX hY
      have HE1 : Hid ((X : Int) = p) := he1
      have HE2 : Hid ((Y : Int) = q) := he2
      clear he1 he2
      by_cases c9 : X = 0
      · have c8 := hone c9
        subst c9 c8
        go_wp2_with fail
        exact bodyPost_ret (v := .tuple #[rv 0 1, .int .i64 0]) (by simp [results, Tryz.results19, go_sem, k4, k5]) rfl ⟨by rw [← HE1.out, ← HE2.out]; rfl, bs (bs hb0 (by simp) _) (by simp) _⟩
      · have c8 : ((X : Int) == 0) = false := by simp; omega
        clear hone
        go_wp2_with fail
        exact bodyPost_ret (v := .tuple #[rv X Y, .int .i64 0]) (by simp [results, Tryz.results19, go_sem, k4, k5]) rfl ⟨by rw [← HE1.out, ← HE2.out], bs (bs hb0 (by simp) _) (by simp) _⟩

theorem refPower_any (a b n p q e : Int) (h : Rt.powT a b n = (p, q, e)) (w : World) :
    Calls Tryz.prog 19 #[rv a b, .int .i64 n] w fun x w' => x = .returned (.tuple #[rv p q, .int .i64 e]) ∧ Below w.heap.size w w' := by
  cases r : Rt.rightB a b with
  | false =>
    unfold Rt.powT at h
    rw [if_neg (by simp [r])] at h
    simp only [Prod.mk.injEq] at h
    obtain ⟨rfl, rfl, rfl⟩ := h
    exact refPowerNo_any a b n r w
  | true =>
    by_cases hn : n < 0 ∨ 4096 < n
    · unfold Rt.powT at h
      rw [if_pos r, if_pos hn] at h
      simp only [Prod.mk.injEq] at h
      obtain ⟨rfl, rfl, rfl⟩ := h
      exact refPowerRange_any a b n r hn w
    · obtain ⟨a1, a2, b1, b2⟩ := Rt.right_bd r
      obtain ⟨x, rfl⟩ := Int.eq_ofNat_of_zero_le a1
      obtain ⟨y, rfl⟩ := Int.eq_ofNat_of_zero_le (show 0 ≤ b by omega)
      obtain ⟨m, rfl⟩ := Int.eq_ofNat_of_zero_le (show 0 ≤ n by omega)
      exact refPowerYes_any x y m r (by omega) p q e h w
end Go.Proofs.YtlndlpjadajelaaGreat
