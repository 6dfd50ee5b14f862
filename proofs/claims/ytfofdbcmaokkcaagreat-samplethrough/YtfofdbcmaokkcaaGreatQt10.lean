import Derived.Test.YtfofdbcmaokkcaaGreatQt07
import Derived.Deep.RegionHeld3
import Derived.Test.YtfofdbcmaokkcaaGreatQt01
namespace Go.Proofs.YtfofdbcmaokkcaaGreat
open Go.RowKit Go.Proofs.YtfofdbcmaokkcaaGreat.Ds

set_option maxHeartbeats 400000 in
theorem right_any (u d : Int) (b : Bool) (hb : Rt.rightB u d = b) (w : World) :
    Calls Tryz.prog 34 #[rv u d] w fun e w' => e = .returned (.bool b) ∧ Below w.heap.size w w' := by
  have HB : Hid (Rt.rightB u d = b) := hb
  clear hb
  by_cases c : 0 ≤ u ∧ u ≤ 1073741824 ∧ 1 ≤ d ∧ d ≤ 1073741824
  · obtain ⟨c1, c2, c3, c4⟩ := c
    obtain ⟨x, rfl⟩ := Int.eq_ofNat_of_zero_le c1
    obtain ⟨y, rfl⟩ := Int.eq_ofNat_of_zero_le (show 0 ≤ d by omega)
    have hbb : b = (((Nat.gcd x y : Nat) : Int) == 1) := by
      rw [← HB.out]; unfold Rt.rightB; rw [Bool.eq_iff_iff]; simp [Rt.mx]; omega
    subst hbb
    clear HB
    go_enter Tryz.func34, Tryz.ntmps34
    go_wp2_with (go_at_call 75; refine (divisor_any _ _ (by omega) (by omega) _).mono ?_; rintro e w' ⟨rfl, hbl⟩)
    go_ret
    exact ⟨rfl, bt (ba _ _) hbl⟩
  · have hbb : b = false := by
      rw [← HB.out]; unfold Rt.rightB Rt.mx; exact decide_eq_false (fun h => c ⟨h.1, h.2.1, h.2.2.1, h.2.2.2.1⟩)
    subst hbb
    clear HB
    by_cases c1 : u < 0
    · clear c
      go_enter Tryz.func34, Tryz.ntmps34
      go_wp2
      go_ret
      exact ⟨rfl, ba _ _⟩
    by_cases c2 : 1073741824 < u
    · clear c
      go_enter Tryz.func34, Tryz.ntmps34
      go_wp2
      go_ret
      exact ⟨rfl, ba _ _⟩
    by_cases c3 : d < 1
    · clear c
      go_enter Tryz.func34, Tryz.ntmps34
      go_wp2
      go_ret
      exact ⟨rfl, ba _ _⟩
    · have c4 : 1073741824 < d := by omega
      clear c
      go_enter Tryz.func34, Tryz.ntmps34
      go_wp2
      go_ret
      exact ⟨rfl, ba _ _⟩

set_option maxHeartbeats 400000 in
theorem refRight_any (u d : Int) (b : Bool) (hb : Rt.rightB u d = b) (w : World) :
    Calls Tryz.prog 109 #[rv u d] w fun e w' => e = .returned (.bool b) ∧ Below w.heap.size w w' := by
  have HB : Hid (Rt.rightB u d = b) := hb
  clear hb
  by_cases c : 0 ≤ u ∧ u ≤ 1073741824 ∧ 1 ≤ d ∧ d ≤ 1073741824
  · obtain ⟨c1, c2, c3, c4⟩ := c
    obtain ⟨x, rfl⟩ := Int.eq_ofNat_of_zero_le c1
    obtain ⟨y, rfl⟩ := Int.eq_ofNat_of_zero_le (show 0 ≤ d by omega)
    have hbb : b = (((Nat.gcd x y : Nat) : Int) == 1) := by
      rw [← HB.out]; unfold Rt.rightB; rw [Bool.eq_iff_iff]; simp [Rt.mx]; omega
    subst hbb
    clear HB
    go_enter Tryz.func109, Tryz.ntmps109
    go_wp2_with (go_at_call 25; refine (refDivisor_any _ _ (by omega) (by omega) (by omega) _).mono ?_; rintro e w' ⟨rfl, rfl⟩)
    go_ret
    exact ⟨rfl, ba _ _⟩
  · have hbb : b = false := by
      rw [← HB.out]; unfold Rt.rightB Rt.mx; exact decide_eq_false (fun h => c ⟨h.1, h.2.1, h.2.2.1, h.2.2.2.1⟩)
    subst hbb
    clear HB
    by_cases c1 : u < 0
    · clear c
      go_enter Tryz.func109, Tryz.ntmps109
      go_wp2
      go_ret
      exact ⟨rfl, ba _ _⟩
    by_cases c3 : d < 1
    · clear c
      go_enter Tryz.func109, Tryz.ntmps109
      go_wp2
      go_ret
      exact ⟨rfl, ba _ _⟩
    by_cases c2 : 1073741824 < u
    · clear c
      go_enter Tryz.func109, Tryz.ntmps109
      go_wp2
      go_ret
      exact ⟨rfl, ba _ _⟩
    · have c4 : 1073741824 < d := by omega
      clear c
      go_enter Tryz.func109, Tryz.ntmps109
      go_wp2
      go_ret
      exact ⟨rfl, ba _ _⟩

theorem timesLit (a b c d : Int) (p q : Nat) (w : World) (a1 : 0 ≤ a) (a2 : a ≤ 1073741824) (b1 : 1 ≤ b) (b2 : b ≤ 1073741824) (c1 : 0 ≤ c) (c2 : c ≤ 1073741824) (d1 : 1 ≤ d) (d2 : d ≤ 1073741824)
    (k1 : w.cell? ⟨p, 0, none⟩ = some (.int .i64 a)) (k2 : w.cell? ⟨p, 1, none⟩ = some (.int .i64 b)) (k3 : w.cell? ⟨q, 0, none⟩ = some (.int .i64 c)) (k4 : w.cell? ⟨q, 1, none⟩ = some (.int .i64 d)) :
    Calls Tryz.prog 77 #[.pointer (some ⟨p, 0, none⟩), .pointer (some ⟨q, 0, none⟩)] w fun x w' => x = .returned (.tuple #[.int .i64 (a * c), .int .i64 (b * d)]) ∧ Below w.heap.size w w' := by
  obtain ⟨p1, p2⟩ := Rt.mul_bd a1 a2 c1 c2
  obtain ⟨p3, p4⟩ := Rt.mul_bd (a := b) (b := d) (by omega) b2 (by omega) d2
  obtain ⟨p5, p6⟩ := Rt.mul_bd (a := a) (b := d) (by omega) a2 (by omega) d2
  obtain ⟨p7, p8⟩ := Rt.mul_bd (a := c) (b := b) (by omega) c2 (by omega) b2
  obtain ⟨p9, p10⟩ := Rt.mul_bd (a := b) (b := c) (by omega) b2 (by omega) c2
  go_enter Tryz.func77, Tryz.ntmps77
  go_wp2
  go_quiet (fail)
  go_wp2
  go_ret2
  exact ⟨rfl, below_drewN (Below.refl _ _) _⟩

set_option maxHeartbeats 400000 in
theorem timesReckon (a b c d n m e : Int) (r1 : Rt.rightB a b = true) (r2 : Rt.rightB c d = true) (hm : Rt.mkT (a * c) (b * d) = (n, m, e)) (p q : Nat) (w : World) (hp : p < w.heap.size) (hq : q < w.heap.size)
    (k1 : w.cell? ⟨p, 0, none⟩ = some (.int .i64 a)) (k2 : w.cell? ⟨p, 1, none⟩ = some (.int .i64 b)) (k3 : w.cell? ⟨q, 0, none⟩ = some (.int .i64 c)) (k4 : w.cell? ⟨q, 1, none⟩ = some (.int .i64 d)) :
    Calls Tryz.prog 76 #[rv a b, rv c d, .func (.func 77) #[] #[.pointer (some ⟨p, 0, none⟩), .pointer (some ⟨q, 0, none⟩)]] w fun x w' => x = .returned (.tuple #[rv n m, .int .i64 e]) ∧ Below w.heap.size w w' := by
  have HM : Hid (Rt.mkT (a * c) (b * d) = (n, m, e)) := hm
  have R1 : Hid (Rt.rightB a b = true) := r1
  have R2 : Hid (Rt.rightB c d = true) := r2
  obtain ⟨a1, a2, b1, b2⟩ := Rt.right_bd r1
  obtain ⟨c1, c2, d1, d2⟩ := Rt.right_bd r2
  clear r1 r2 hm
  obtain ⟨p1, p2⟩ := Rt.mul_bd a1 a2 c1 c2
  obtain ⟨p3, p4⟩ := Rt.mul_bd (a := b) (b := d) (by omega) b2 (by omega) d2
  obtain ⟨p5, p6⟩ := Rt.mul_bd (a := a) (b := d) (by omega) a2 (by omega) d2
  obtain ⟨p7, p8⟩ := Rt.mul_bd (a := c) (b := b) (by omega) c2 (by omega) b2
  obtain ⟨p9, p10⟩ := Rt.mul_bd (a := b) (b := c) (by omega) b2 (by omega) c2
  go_enter Tryz.func76, Tryz.ntmps76
  go_wp2_with fail
  refine (right_any a b true R1.out _).mono ?_
  rintro e1 w1 ⟨rfl, hb1⟩
  obtain ⟨hc1, hf1⟩ := bcell hb1
  go_wp2_with fail
  refine (right_any c d true R2.out _).mono ?_
  rintro e2 w2 ⟨rfl, hb2⟩
  have F2 := bt hb1 hb2
  clear hc1 hf1 hb1 hb2
  have G2 := bt (bal (bal (ba _ _) _) _) F2
  go_wp2_with fail
  refine (timesLit a b c d p q _ a1 a2 b1 b2 c1 c2 d1 d2 ((G2.cell (p := ⟨p, 0, none⟩) hp).trans k1) ((G2.cell (p := ⟨p, 1, none⟩) hp).trans k2) ((G2.cell (p := ⟨q, 0, none⟩) hq).trans k3) ((G2.cell (p := ⟨q, 1, none⟩) hq).trans k4)).mono ?_
  rintro e3 w3 ⟨rfl, hb3⟩
  go_wp2_with fail
  refine (rmake_any (a * c) (b * d) n m e (by omega) (by omega) HM.out _).mono ?_
  rintro e4 w4 ⟨rfl, hb4⟩
  have F4 := bt (bt F2 hb3) hb4
  have G4 := bt (bal (bal (ba _ _) _) _) F4
  clear F2 hb3 hb4 G2
  obtain ⟨hc4, hf4⟩ := bcell F4
  go_wp2_with fail
  exact bodyPost_ret (v := .tuple #[rv n m, .int .i64 e]) (by simp [results, Tryz.results76, go_sem, hc4]) rfl ⟨rfl, bs (bs G4 (by simp; omega) _) (by simp; omega) _⟩

set_option maxHeartbeats 400000 in
theorem reckonNo (a b c d : Int) (f : Value) (h : Rt.rightB a b = false ∨ (Rt.rightB a b = true ∧ Rt.rightB c d = false)) (w : World) :
    Calls Tryz.prog 76 #[rv a b, rv c d, f] w fun x w' => x = .returned (.tuple #[rv 0 0, .int .i64 2]) ∧ Below w.heap.size w w' := by
  rcases h with r1 | ⟨r1, r2⟩
  · have R1 : Hid (Rt.rightB a b = false) := r1
    clear r1
    go_enter Tryz.func76, Tryz.ntmps76
    go_wp2_with fail
    refine (right_any a b false R1.out _).mono ?_
    rintro e1 w1 ⟨rfl, hb1⟩
    have G1 := bt (bal (bal (ba _ _) _) _) hb1
    obtain ⟨hc1, hf1⟩ := bcell hb1
    go_wp2_with fail
    exact bodyPost_ret (v := .tuple #[rv 0 0, .int .i64 2]) (by simp [results, Tryz.results76, go_sem, hc1]) rfl ⟨rfl, bs (bs G1 (by simp; omega) _) (by simp; omega) _⟩
  · have R1 : Hid (Rt.rightB a b = true) := r1
    have R2 : Hid (Rt.rightB c d = false) := r2
    clear r1 r2
    go_enter Tryz.func76, Tryz.ntmps76
    go_wp2_with fail
    refine (right_any a b true R1.out _).mono ?_
    rintro e1 w1 ⟨rfl, hb1⟩
    obtain ⟨hc1, hf1⟩ := bcell hb1
    go_wp2_with fail
    refine (right_any c d false R2.out _).mono ?_
    rintro e2 w2 ⟨rfl, hb2⟩
    have F2 := bt hb1 hb2
    clear hc1 hf1 hb1 hb2
    have G2 := bt (bal (bal (ba _ _) _) _) F2
    obtain ⟨hc1, hf1⟩ := bcell F2
    go_wp2_with fail
    exact bodyPost_ret (v := .tuple #[rv 0 0, .int .i64 2]) (by simp [results, Tryz.results76, go_sem, hc1]) rfl ⟨rfl, bs (bs G2 (by simp; omega) _) (by simp; omega) _⟩

set_option maxHeartbeats 400000 in
theorem times_any (a b c d n m e : Int) (h : Rt.timesT a b c d = (n, m, e)) (w : World) :
    Calls Tryz.prog 35 #[rv a b, rv c d] w fun x w' => x = .returned (.tuple #[rv n m, .int .i64 e]) ∧ Below w.heap.size w w' := by
  have H : Hid (Rt.timesT a b c d = (n, m, e)) := h
  clear h
  by_cases r : Rt.rightB a b = true ∧ Rt.rightB c d = true
  · obtain ⟨r1, r2⟩ := r
    have hm : Rt.mkT (a * c) (b * d) = (n, m, e) := by rw [← H.out]; unfold Rt.timesT; rw [if_pos ⟨r1, r2⟩]
    have HM : Hid (Rt.mkT (a * c) (b * d) = (n, m, e)) := hm
    have R1 : Hid (Rt.rightB a b = true) := r1
    have R2 : Hid (Rt.rightB c d = true) := r2
    clear hm r1 r2 H
    go_enter Tryz.func35, Tryz.ntmps35
    go_wp2_with fail
    refine (timesReckon a b c d n m e R1.out R2.out HM.out w.heap.size (w.heap.size + 1) _ (by simp <;> omega) (by simp <;> omega) (by simp [go_sem]) (by simp [go_sem]) (by simp [go_sem]) (by simp [go_sem])).mono ?_
    rintro e1 w1 ⟨rfl, hb1⟩
    have G1 := bt (bal (bal (ba _ _) _) _) hb1
    obtain ⟨hc1, hf1⟩ := bcell hb1
    go_wp2_with fail
    exact bodyPost_ret (v := .tuple #[rv n m, .int .i64 e]) (by simp [results, Tryz.results35, go_sem, hc1]) rfl ⟨rfl, bs (bs G1 (by simp; omega) _) (by simp; omega) _⟩
  · have hr : (0, 0, 2) = (n, m, e) := by rw [← H.out]; unfold Rt.timesT; rw [if_neg r]
    simp only [Prod.mk.injEq] at hr
    obtain ⟨rfl, rfl, rfl⟩ := hr
    have r' : Rt.rightB a b = false ∨ (Rt.rightB a b = true ∧ Rt.rightB c d = false) := by
      cases h1 : Rt.rightB a b <;> cases h2 : Rt.rightB c d <;> simp_all
    have R : Hid (Rt.rightB a b = false ∨ (Rt.rightB a b = true ∧ Rt.rightB c d = false)) := r'
    clear r r' H
    go_enter Tryz.func35, Tryz.ntmps35
    go_wp2_with fail
    refine (reckonNo a b c d _ R.out _).mono ?_
    rintro e1 w1 ⟨rfl, hb1⟩
    have G1 := bt (bal (bal (ba _ _) _) _) hb1
    obtain ⟨hc1, hf1⟩ := bcell hb1
    go_wp2_with fail
    exact bodyPost_ret (v := .tuple #[rv 0 0, .int .i64 2]) (by simp [results, Tryz.results35, go_sem, hc1]) rfl ⟨rfl, bs (bs G1 (by simp; omega) _) (by simp; omega) _⟩
end Go.Proofs.YtfofdbcmaokkcaaGreat

namespace Go.Proofs.YtfofdbcmaokkcaaGreat
open Go.RowKit Go.Proofs.YtfofdbcmaokkcaaGreat.Ds

set_option maxHeartbeats 400000 in
theorem powerNo_any (a b n : Int) (h : Rt.rightB a b = false) (w : World) :
    Calls Tryz.prog 11 #[rv a b, .int .i64 n] w fun x w' => x = .returned (.tuple #[rv 0 0, .int .i64 2]) ∧ Below w.heap.size w w' := by
  have H : Hid (Rt.rightB a b = false) := h
  clear h
  go_enter Tryz.func11, Tryz.ntmps11
  go_wp2_with fail
  refine (right_any a b false H.out _).mono ?_
  rintro e1 w1 ⟨rfl, hb1⟩
  have G1 := bt (bal (ba _ _) _) hb1
  obtain ⟨hc1, hf1⟩ := bcell hb1
  go_wp2_with fail
  exact bodyPost_ret (v := .tuple #[rv 0 0, .int .i64 2]) (by simp [results, Tryz.results11, go_sem, hc1]) rfl ⟨rfl, bs (bs G1 (by simp) _) (by simp) _⟩

set_option maxHeartbeats 400000 in
theorem powerRange_any (a b n : Int) (h : Rt.rightB a b = true) (hn : n < 0 ∨ 4096 < n) (w : World) :
    Calls Tryz.prog 11 #[rv a b, .int .i64 n] w fun x w' => x = .returned (.tuple #[rv 0 0, .int .i64 3]) ∧ Below w.heap.size w w' := by
  have H : Hid (Rt.rightB a b = true) := h
  clear h
  have hn' : n < 0 ∨ (¬ n < 0 ∧ 4096 < n) := by omega
  clear hn
  rcases hn' with hn | ⟨hn1, hn⟩
  all_goals
    go_enter Tryz.func11, Tryz.ntmps11
    go_wp2_with fail
    refine (right_any a b true H.out _).mono ?_
    rintro e1 w1 ⟨rfl, hb1⟩
    have G1 := bt (bal (ba _ _) _) hb1
    obtain ⟨hc1, hf1⟩ := bcell hb1
    go_wp2_with fail
    exact bodyPost_ret (v := .tuple #[rv 0 0, .int .i64 3]) (by simp [results, Tryz.results11, go_sem, hc1]) rfl ⟨rfl, bs (bs G1 (by simp) _) (by simp) _⟩

set_option maxHeartbeats 400000 in
theorem powerYes_any (x y n : Nat) (h : Rt.rightB x y = true) (hn : n ≤ 4096) (p q e : Int) (hp : Rt.powT x y n = (p, q, e)) (w : World) :
    Calls Tryz.prog 11 #[rv x y, .int .i64 n] w fun x w' => x = .returned (.tuple #[rv p q, .int .i64 e]) ∧ Below w.heap.size w w' := by
  have H : Hid (Rt.rightB x y = true) := h
  have HP : Hid (Rt.powT x y n = (p, q, e)) := hp
  clear h hp
  go_enter Tryz.func11, Tryz.ntmps11
  go_wp2_with fail
  refine (right_any x y true H.out _).mono ?_
  rintro e1 w1 ⟨rfl, hb1⟩
  have G1 := bt (bal (ba _ _) _) hb1
  obtain ⟨hc1, hf1⟩ := bcell hb1
  go_wp2_with fail
  have hz1 : w.heap.size < w1.heap.size := by have := hb1.size; simp at this; omega
  have hz1' : w.heap.size + 1 < w1.heap.size := by have := hb1.size; simp at this; omega
  go_loopw [21] (fun c wr => ∃ i : Nat, i ≤ n ∧ c = .int .i64 (i : Int) ∧ x ^ i ≤ 1073741824 ∧ y ^ i ≤ 1073741824 ∧ Below w1.heap.size w1 wr ∧ w1.heap.size < wr.heap.size ∧ wr.cell? ⟨w1.heap.size, 0, none⟩ = some (.int .i64 ((x ^ i : Nat) : Int)) ∧ wr.cell? ⟨w1.heap.size, 1, none⟩ = some (.int .i64 ((y ^ i : Nat) : Int)) ∧ wr.frozen? ⟨w1.heap.size, 0, none⟩ = false ∧ wr.frozen? ⟨w1.heap.size, 1, none⟩ = false) (fun c _ => n - (intOf c).toNat)
  case atStart => exact ⟨0, by omega, rfl, by simp, by simp, ba _ _, by simp, by simp [go_sem], by simp [go_sem], by simp [go_sem], by simp [go_sem]⟩
  case round =>
    obtain ⟨i, hi, rfl, hx, hy, hbr, hzr, hr0, hr1, hr2, hr3⟩ := hrel
    have F1 := bt hb1 hbr
    have k0 : wr.cell? ⟨w.heap.size, 0, none⟩ = some (.int .i64 (x : Int)) := by rw [F1.cell (p := ⟨w.heap.size, 0, none⟩) (by simp <;> omega)]; simp [go_sem]
    have k1 : wr.cell? ⟨w.heap.size, 1, none⟩ = some (.int .i64 (y : Int)) := by rw [F1.cell (p := ⟨w.heap.size, 1, none⟩) (by simp <;> omega)]; simp [go_sem]
    have HT := Rt.times_pow x y i H.out hx hy
    generalize hX : x ^ i = X at *
    generalize hY : y ^ i = Y at *
    have HX : Hid (x ^ i = X) := hX
    have HY : Hid (y ^ i = Y) := hY
    clear hX hY
    by_cases c0 : i < n
    · by_cases c1 : x ^ (i + 1) ≤ 1073741824 ∧ y ^ (i + 1) ≤ 1073741824
      · rw [if_pos c1] at HT
        have HT' : Hid (Rt.timesT (X : Int) (Y : Int) x y = (((x ^ (i + 1) : Nat) : Int), ((y ^ (i + 1) : Nat) : Int), 0)) := HT
        clear HT
        obtain ⟨c1, c2⟩ := c1
        generalize hX : x ^ (i + 1) = X' at *
        generalize hY : y ^ (i + 1) = Y' at *
        have HX' : Hid (x ^ (i + 1) = X') := hX
        have HY' : Hid (y ^ (i + 1) = Y') := hY
        clear hX hY
        go_wp2_with fail
        refine (times_any X Y x y X' Y' 0 HT'.out _).mono ?_
        rintro e2 w2 ⟨rfl, hb2⟩
        obtain ⟨hc2, hf2⟩ := bcell hb2
        go_wp2_with fail
        have hz2 := hb2.size
        refine ⟨⟨i + 1, by omega, by go_num, by rw [HX'.out]; exact c1, by rw [HY'.out]; exact c2, ?_, ?_, ?_, ?_, ?_, ?_⟩, ?_⟩
        · exact ((hbr.trans (hb2.mono (by omega))).setCell (Nat.le_refl _) _).setCell (Nat.le_refl _) _
        · simp; omega
        · rw [HX'.out]; simp [go_sem, hc2, hzr, hr0]
        · rw [HY'.out]; simp [go_sem, hc2, hzr, hr1]
        · simp [go_sem, hf2, hzr, hr2]
        · simp [go_sem, hf2, hzr, hr3]
        · simp [intOf]; omega
      · rw [if_neg c1] at HT
        have HT' : Hid (Rt.timesT (X : Int) (Y : Int) x y = (0, 0, 4)) := HT
        clear HT
        have hgt : 1073741824 < x ^ n ∨ 1073741824 < y ^ n := by
          by_cases g : 1073741824 < x ^ (i + 1)
          · exact .inl (Rt.pow_gt x (i + 1) n (by omega) g)
          · exact .inr (Rt.pow_gt y (i + 1) n (by omega) (by omega))
        have hp := Rt.powT_of x y n H.out hn p q e HP.out
        have hp' : 0 = p ∧ 0 = q ∧ 4 = e := by
          rcases hp with ⟨_, h1⟩ | ⟨h1, h2, _⟩
          · exact h1
          · omega
        clear hp hgt c1 HP
        obtain ⟨rfl, rfl, rfl⟩ := hp'
        have hb0 := bt G1 hbr
        go_wp2_with fail
        refine (times_any X Y x y 0 0 4 HT'.out _).mono ?_
        rintro e2 w2 ⟨rfl, hb2⟩
        obtain ⟨hc2, hf2⟩ := bcell hb2
        have k4 : w2.cell? ⟨w.heap.size + 1, 0, none⟩ = some (.int .i64 0) := by rw [hc2 _ _ (by omega), F1.cell (p := ⟨w.heap.size + 1, 0, none⟩) (by simp)]; simp [go_sem]
        have k5 : w2.cell? ⟨w.heap.size + 1, 1, none⟩ = some (.int .i64 0) := by rw [hc2 _ _ (by omega), F1.cell (p := ⟨w.heap.size + 1, 1, none⟩) (by simp)]; simp [go_sem]
        have k6 : w2.frozen? ⟨w.heap.size + 1, 0, none⟩ = false := by rw [hf2 _ _ (by omega), F1.frozen (p := ⟨w.heap.size + 1, 0, none⟩) (by simp)]; simp [go_sem]
        have k7 : w2.frozen? ⟨w.heap.size + 1, 1, none⟩ = false := by rw [hf2 _ _ (by omega), F1.frozen (p := ⟨w.heap.size + 1, 1, none⟩) (by simp)]; simp [go_sem]
        have hne : ¬ w1.heap.size = w.heap.size + 1 := by omega
        have hne' : ¬ w.heap.size + 1 = w1.heap.size := by omega
        go_wp2_with fail
        exact bodyPost_ret (v := .tuple #[rv 0 0, .int .i64 4]) (by simp [results, Tryz.results11, go_sem, k4, k5]) rfl ⟨rfl, bs (bs (bs (bs (bt hb0 hb2) (by simp; omega) _) (by simp; omega) _) (by simp) _) (by simp) _⟩
    · have hin : i = n := by omega
      subst hin
      clear HT
      have hp := Rt.powT_of x y i H.out hn p q e HP.out
      rw [HX.out, HY.out] at hp
      have hp' : (X : Int) = p ∧ (Y : Int) = q ∧ 0 = e := by
        rcases hp with ⟨_, h1⟩ | ⟨h1, h2, h3⟩
        · omega
        · exact h3
      clear hp HP
      obtain ⟨rfl, rfl, rfl⟩ := hp'
      have hb0 := bt G1 hbr
      have k4 : wr.cell? ⟨w.heap.size + 1, 0, none⟩ = some (.int .i64 0) := by rw [F1.cell (p := ⟨w.heap.size + 1, 0, none⟩) (by simp)]; simp [go_sem]
      have k5 : wr.cell? ⟨w.heap.size + 1, 1, none⟩ = some (.int .i64 0) := by rw [F1.cell (p := ⟨w.heap.size + 1, 1, none⟩) (by simp)]; simp [go_sem]
      have k6 : wr.frozen? ⟨w.heap.size + 1, 0, none⟩ = false := by rw [F1.frozen (p := ⟨w.heap.size + 1, 0, none⟩) (by simp)]; simp [go_sem]
      have k7 : wr.frozen? ⟨w.heap.size + 1, 1, none⟩ = false := by rw [F1.frozen (p := ⟨w.heap.size + 1, 1, none⟩) (by simp)]; simp [go_sem]
      go_wp2_with fail
      exact bodyPost_ret (v := .tuple #[rv X Y, .int .i64 0]) (by simp [results, Tryz.results11, go_sem, k4, k5]) rfl ⟨rfl, bs (bs hb0 (by simp) _) (by simp) _⟩

theorem power_any (a b n p q e : Int) (h : Rt.powT a b n = (p, q, e)) (w : World) :
    Calls Tryz.prog 11 #[rv a b, .int .i64 n] w fun x w' => x = .returned (.tuple #[rv p q, .int .i64 e]) ∧ Below w.heap.size w w' := by
  cases r : Rt.rightB a b with
  | false =>
    unfold Rt.powT at h
    rw [if_neg (by simp [r])] at h
    simp only [Prod.mk.injEq] at h
    obtain ⟨rfl, rfl, rfl⟩ := h
    exact powerNo_any a b n r w
  | true =>
    by_cases hn : n < 0 ∨ 4096 < n
    · unfold Rt.powT at h
      rw [if_pos r, if_pos hn] at h
      simp only [Prod.mk.injEq] at h
      obtain ⟨rfl, rfl, rfl⟩ := h
      exact powerRange_any a b n r hn w
    · obtain ⟨a1, a2, b1, b2⟩ := Rt.right_bd r
      obtain ⟨x, rfl⟩ := Int.eq_ofNat_of_zero_le a1
      obtain ⟨y, rfl⟩ := Int.eq_ofNat_of_zero_le (show 0 ≤ b by omega)
      obtain ⟨m, rfl⟩ := Int.eq_ofNat_of_zero_le (show 0 ≤ n by omega)
      exact powerYes_any x y m r (by omega) p q e h w

end Go.Proofs.YtfofdbcmaokkcaaGreat

namespace Go.Proofs.YtfofdbcmaokkcaaGreat
open Go.Proofs.YtfofdbcmaokkcaaGreat.Ds

/-! ### WHAT CHAPTER 6 SAYS, ON LISTS -/
/-- what is wrong with a loss -/
def lossE (u d : Int) : Int := if Rt.rightB u d = true then (if u < d then 3 else 0) else 2
/-- d, k times, times u, R - k times -/
def gk (u d : Int) (R k : Nat) : Int := d ^ k * u ^ (R - k)
/-- what a place weighs: i steps above the lowest one, where the number is a steps above it -/
def hwt (u d : Int) (R a i : Nat) : Int := gk u d R (i - a + (a - i)) * (if i = 0 ∨ i = R then u else u - d)
/-- the parts of what may be told -/
def hidL (u d lo : Int) (R a : Nat) : List Pt := (List.range (R + 1)).map fun (i : Nat) => ([lo + (i : Int)], hwt u d R a i)
/-- how far the number lies above the lowest place, brought in -/
def plcT (lo hi n : Int) : Int := min (max n lo) hi
/-- Hide -/
def hideT (u d lo hi n : Int) : List Pt × Int :=
  if lossE u d ≠ 0 then ([], lossE u d)
  else if ¬ (-1073741824 ≤ lo ∧ lo ≤ hi ∧ hi ≤ 1073741824 ∧ hi - lo ≤ 64) then ([], 3)
  else if lo = hi then makeT [([lo], 1)]
  else if 1073741824 < (u + d) * u ^ (hi - lo).toNat then ([], 4)
  else makeT (hidL u d lo (hi - lo).toNat (plcT lo hi n - lo).toNat)
/-- Lost -/
def lostT (u d n : Int) : Int × Int × Int := if lossE u d ≠ 0 then (0, 0, lossE u d) else Rt.powT u d n
/-- the parts of what may be said -/
def resL (u d truth : Int) (many : Nat) : List Pt := (List.range many).map fun (i : Nat) => ([(i : Int)], if (i : Int) = truth then u else d)
/-- Respond -/
def resT (u d many truth : Int) : List Pt × Int :=
  if lossE u d ≠ 0 then ([], lossE u d)
  else if ¬ (1 ≤ many ∧ many ≤ 4096 ∧ 0 ≤ truth ∧ truth < many) then ([], 3)
  else if 1073741824 < u + (many - 1) * d then ([], 4)
  else makeT (resL u d truth many.toNat)

theorem loss_ok {u d : Int} (h : lossE u d = 0) : Rt.rightB u d = true ∧ d ≤ u ∧ 1 ≤ d ∧ u ≤ 1073741824 := by
  unfold lossE at h
  split at h
  · rename_i h1
    have := Rt.right_bd h1
    split at h
    · omega
    · exact ⟨h1, by omega, by omega, by omega⟩
  · omega
theorem loss_bd (u d : Int) : 0 ≤ lossE u d ∧ lossE u d ≤ 3 := by
  unfold lossE; split
  · split <;> omega
  · omega

/-! ### powers -/
theorem pow_pos' {u : Int} (h : 1 ≤ u) (n : Nat) : 1 ≤ u ^ n := by
  have := Int.pow_pos (n := u) (m := n) (by omega)
  omega
theorem pow_mono {u : Int} (h : 1 ≤ u) {n m : Nat} (hnm : n ≤ m) : u ^ n ≤ u ^ m := by
  obtain ⟨k, rfl⟩ := Nat.le.dest hnm
  rw [Int.pow_add]
  have h1 := pow_pos' h n
  have h2 := pow_pos' h k
  have := Int.mul_le_mul_of_nonneg_left h2 (show 0 ≤ u ^ n by omega)
  omega
theorem pow_le {u d : Int} (hd : 0 ≤ d) (h : d ≤ u) (n : Nat) : d ^ n ≤ u ^ n := by
  induction n with
  | zero => simp
  | succ n ih =>
    rw [Int.pow_succ, Int.pow_succ]
    exact Int.mul_le_mul ih h hd (Int.pow_nonneg (by omega))
theorem pow_nn {d : Int} (hd : 0 ≤ d) (n : Nat) : 0 ≤ d ^ n := Int.pow_nonneg hd

/-! ### weights -/
theorem gk_zero (u d : Int) (R : Nat) : gk u d R 0 = u ^ R := by simp [gk]
theorem gk_step (u d : Int) {R k : Nat} (h : k < R) : u * gk u d R (k + 1) = d * gk u d R k := by
  unfold gk
  rw [show R - k = (R - (k + 1)) + 1 from by omega, Int.pow_succ, Int.pow_succ]
  simp only [Int.mul_comm, Int.mul_left_comm, Int.mul_assoc]
theorem gk_far (u d : Int) {R k : Nat} (s : Nat) (h : k + s ≤ R) : u ^ s * gk u d R (k + s) = d ^ s * gk u d R k := by
  induction s with
  | zero => simp
  | succ s ih =>
    have h1 := ih (by omega)
    have h2 := gk_step u d (R := R) (k := k + s) (by omega)
    rw [Int.pow_succ, Int.pow_succ, ← Nat.add_assoc, Int.mul_assoc, h2, ← Int.mul_assoc, Int.mul_right_comm, h1, Int.mul_right_comm]
theorem gk_nn {u d : Int} (hu : 0 ≤ u) (hd : 0 ≤ d) (R k : Nat) : 0 ≤ gk u d R k := Int.mul_nonneg (pow_nn hd _) (pow_nn hu _)
theorem gk_pos {u d : Int} (hu : 1 ≤ u) (hd : 1 ≤ d) (R k : Nat) : 0 < gk u d R k := Int.mul_pos (by have := pow_pos' hd k; omega) (by have := pow_pos' hu (R - k); omega)
theorem gk_anti {u d : Int} (hd : 1 ≤ d) (h : d ≤ u) {R k s : Nat} (hk : k + s ≤ R) : gk u d R (k + s) ≤ gk u d R k := by
  have h1 := gk_far u d s hk
  have h2 := pow_le (show 0 ≤ d by omega) h s
  have h3 := gk_nn (show 0 ≤ u by omega) (show 0 ≤ d by omega) R k
  have h4 : u ^ s * gk u d R (k + s) ≤ u ^ s * gk u d R k := by rw [h1]; exact Int.mul_le_mul_of_nonneg_right h2 h3
  exact Int.le_of_mul_le_mul_left h4 (by have := pow_pos' (show 1 ≤ u by omega) s; omega)

/-- how likely one is against another, as far apart as their places are -/
theorem gk_bd {u d : Int} (hd : 1 ≤ d) (h : d ≤ u) {R k k' f : Nat} (hk : k ≤ R) (hk' : k' ≤ R) (hf : k' ≤ k + f) : gk u d R k * d ^ f ≤ u ^ f * gk u d R k' := by
  have hu : 1 ≤ u := by omega
  by_cases c : k' ≤ k
  · obtain ⟨s, rfl⟩ := Nat.le.dest c
    have h1 := gk_anti hd h (R := R) (k := k') (s := s) hk
    have h2 := pow_le (show 0 ≤ d by omega) h f
    rw [Int.mul_comm (u ^ f)]
    exact Int.mul_le_mul h1 h2 (pow_nn (by omega) _) (gk_nn (by omega) (by omega) _ _)
  · obtain ⟨s, rfl⟩ := Nat.le.dest (show k ≤ k' by omega)
    have h1 := gk_far u d s hk'
    obtain ⟨t, rfl⟩ := Nat.le.dest (show s ≤ f by omega)
    rw [Int.pow_add, Int.pow_add, Int.mul_right_comm, h1, Int.mul_comm (gk u d R k), Int.mul_right_comm (d ^ s) (d ^ t)]
    have h2 := pow_le (show 0 ≤ d by omega) h t
    have h3 : 0 ≤ d ^ s * gk u d R k := Int.mul_nonneg (pow_nn (by omega) _) (gk_nn (by omega) (by omega) _ _)
    exact Int.mul_le_mul_of_nonneg_left h2 h3

/-! ### all weights together -/
def sumR (f : Nat → Int) : Nat → Int
  | 0 => 0
  | n + 1 => sumR f n + f n
theorem tot_range (f : Nat → List Int) (g : Nat → Int) (n : Nat) : tot ((List.range n).map fun i => (f i, g i)) = sumR g n := by
  induction n with
  | zero => rfl
  | succ n ih => rw [List.range_succ, List.map_append, tot_append, ih]; simp [sumR, tot_cons]
theorem hwt_low {u d : Int} {R a : Nat} (ha : a ≤ R) {j : Nat} (hj : j ≤ a) (h : j < R) : sumR (hwt u d R a) (j + 1) = u * gk u d R (a - j) := by
  induction j with
  | zero => simp [sumR, hwt]; rw [Int.mul_comm]
  | succ j ih =>
    have h1 := ih (by omega) (by omega)
    rw [sumR, h1]
    have e1 : hwt u d R a (j + 1) = gk u d R (a - (j + 1)) * (u - d) := by
      unfold hwt
      rw [if_neg (by omega), show j + 1 - a + (a - (j + 1)) = a - (j + 1) from by omega]
    have h2 := gk_step u d (R := R) (k := a - (j + 1)) (by omega)
    rw [show a - (j + 1) + 1 = a - j from by omega] at h2
    rw [e1, h2, Int.mul_sub, Int.mul_comm (gk u d R (a - (j + 1))) u, Int.mul_comm (gk u d R (a - (j + 1))) d]
    omega
theorem hwt_high {u d : Int} {R a : Nat} (ha : a < R) {j : Nat} (hj : a ≤ j) (h : j < R) : sumR (hwt u d R a) (j + 1) = u * gk u d R 0 + d * gk u d R 0 - u * gk u d R (j + 1 - a) := by
  obtain ⟨s, rfl⟩ := Nat.le.dest hj
  clear hj
  induction s with
  | zero =>
    have h1 := hwt_low (u := u) (d := d) (R := R) (a := a) (by omega) (j := a) (Nat.le_refl _) ha
    have h2 := gk_step u d (R := R) (k := 0) (by omega)
    rw [Nat.add_zero, h1, show a + 1 - a = 0 + 1 from by omega, h2, Nat.sub_self]
    omega
  | succ s ih =>
    have h1 := ih (by omega)
    rw [← Nat.add_assoc, sumR, h1]
    have e1 : hwt u d R a (a + s + 1) = gk u d R (s + 1) * (u - d) := by
      unfold hwt
      rw [if_neg (by omega), show a + s + 1 - a + (a - (a + s + 1)) = s + 1 from by omega]
    have h2 := gk_step u d (R := R) (k := s + 1) (by omega)
    rw [e1, show a + s + 1 - a = s + 1 from by omega, show a + s + 1 + 1 - a = s + 1 + 1 from by omega, h2, Int.mul_sub, Int.mul_comm (gk u d R (s + 1)) u, Int.mul_comm (gk u d R (s + 1)) d]
    omega
/-- wherever the number is, all weights together are the same -/
theorem hwt_all {u d : Int} {R a : Nat} (ha : a ≤ R) (hR : 1 ≤ R) : sumR (hwt u d R a) (R + 1) = (u + d) * u ^ R := by
  rw [sumR, ← gk_zero u d R]
  obtain ⟨r, rfl⟩ : ∃ r, R = r + 1 := ⟨R - 1, by omega⟩
  by_cases c : a = r + 1
  · subst c
    have h1 := hwt_low (u := u) (d := d) (R := r + 1) (a := r + 1) (Nat.le_refl _) (j := r) (by omega) (by omega)
    have h2 := gk_step u d (R := r + 1) (k := 0) (by omega)
    rw [h1, show r + 1 - r = 0 + 1 from by omega, h2]
    unfold hwt
    rw [if_pos (.inr rfl), show r + 1 - (r + 1) + (r + 1 - (r + 1)) = 0 from by omega, Int.add_mul, Int.mul_comm (gk u d (r + 1) 0) u]
    omega
  · have h1 := hwt_high (u := u) (d := d) (R := r + 1) (a := a) (by omega) (j := r) (by omega) (by omega)
    rw [h1]
    unfold hwt
    rw [if_pos (.inr rfl), show r + 1 - a + (a - (r + 1)) = r + 1 - a from by omega, Int.add_mul, Int.mul_comm (gk u d (r + 1) (r + 1 - a)) u]
    omega
theorem hid_tot {u d lo : Int} {R a : Nat} (ha : a ≤ R) (hR : 1 ≤ R) : tot (hidL u d lo R a) = (u + d) * u ^ R := by
  unfold hidL
  rw [tot_range (fun i => [lo + (i : Int)]) (hwt u d R a) (R + 1), hwt_all ha hR]
theorem hwt_nn {u d : Int} (hd : 1 ≤ d) (h : d ≤ u) (R a i : Nat) : 0 ≤ hwt u d R a i := by
  unfold hwt
  refine Int.mul_nonneg (gk_nn (by omega) (by omega) _ _) ?_
  split <;> omega
theorem sumR_mem {f : Nat → Int} (h : ∀ i, 0 ≤ f i) : ∀ {n i : Nat}, i < n → f i ≤ sumR f n
  | 0, _, hi => absurd hi (by omega)
  | n + 1, i, hi => by
    rw [sumR]
    have h0 : ∀ m, 0 ≤ sumR f m := by intro m; induction m with
      | zero => simp [sumR]
      | succ m ih => rw [sumR]; have := h m; omega
    by_cases c : i = n
    · subst c; have := h0 i; omega
    · have := sumR_mem h (n := n) (i := i) (by omega); have := h n; omega
theorem hwt_le {u d : Int} (hd : 1 ≤ d) (h : d ≤ u) {R a i : Nat} (ha : a ≤ R) (hR : 1 ≤ R) (hi : i ≤ R) : hwt u d R a i ≤ (u + d) * u ^ R := by
  rw [← hwt_all ha hR]
  exact sumR_mem (hwt_nn hd h R a) (by omega)
theorem res_tot (u d truth : Int) {many : Nat} (h0 : 0 ≤ truth) : tot (resL u d truth many) = if truth < many then u + ((many : Int) - 1) * d else many * d := by
  unfold resL
  rw [tot_range (fun i => [(i : Int)]) (fun i => if (i : Int) = truth then u else d) many]
  induction many with
  | zero => simp [sumR]; omega
  | succ n ih =>
    rw [sumR, ih]
    by_cases c1 : truth < n
    · rw [if_pos c1, if_neg (by omega), if_pos (by omega)]
      rw [show ((n + 1 : Nat) : Int) - 1 = (n : Int) from by omega, Int.sub_mul]; omega
    · by_cases c2 : (n : Int) = truth
      · rw [if_neg c1, if_pos c2, if_pos (by omega), show ((n + 1 : Nat) : Int) - 1 = (n : Int) from by omega]; omega
      · rw [if_neg c1, if_neg c2, if_neg (by omega)]
        rw [Int.natCast_add, Int.add_mul]; simp
end Go.Proofs.YtfofdbcmaokkcaaGreat
