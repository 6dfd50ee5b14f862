import Derived.Test.YtcmhokfeadeffaaRsp
import Derived.Test.YtcmhokfeadeffaaNss
namespace Go.Proofs.Ytcmhokfeadeffaa
open Go.RowKit Go.Proofs.Ytcmhokfeadeffaa.Ds

set_option maxHeartbeats 4000000 in
set_option maxRecDepth 100000 in
theorem noiseSays_walk (u d many m n : Int) (w : World) :
    Calls Try.prog 5 #[rv u d, .int .i64 many, .int .i64 m, .int .i64 n] w fun e w' => e = .returned (.bool true) ∧ Below w.heap.size w w' := by
  obtain ⟨⟨l, e1⟩, h1⟩ : ∃ x, resT u d many m = x := ⟨_, rfl⟩
  have kc := respond_fr u d many m l e1 h1
  by_cases c : e1 = 0
  · subst c
    rcases res_two (n := n) h1 with ⟨hn, h2⟩ | ⟨hn, l', h2, hf⟩
    · have kd := respond_fr u d many n [] 3 h2
      have hn' : n < 0 ∨ (0 ≤ n ∧ many ≤ n) := by omega
      clear h1 h2 hn
      rcases hn' with hn' | ⟨hn0, hn'⟩
      · skip
        go_enter Try.func5, Try.ntmps5
        go_wp2_with fail
        refine (alive_any _).mono ?_
        rintro e w1 ⟨rfl, hb1⟩
        have G1 := bt (ba _ _) hb1
        obtain ⟨hc1, hf1⟩ := bcell hb1
        go_wp2_with fail
        refine (kc _).mono ?_
        rintro e w2 ⟨v2, us, rfl, k1, k2, k3, _⟩
        obtain ⟨a2, c2, rfl⟩ := k2.slice
        have HU : Hid (Parts w2 w2.heap.size (.slice a2 us.length c2) us) := k2.parts
        have HL : Hid (rd us = l) := k1
        have G2 := bt G1 k3
        obtain ⟨hc2, hf2⟩ := bcell k3
        have hz1 : w.heap.size < w1.heap.size := by have := hb1.size; simp at this; omega
        have hz2 : w1.heap.size ≤ w2.heap.size := k3.size
        clear k1 k2
        go_wp2_with fail
        refine (kd _).mono ?_
        rintro e w3 ⟨v3, us3, rfl, k1, k2, k3', _⟩
        obtain ⟨a3, c3, rfl⟩ := k2.slice
        have HU3 : Hid (Parts w3 w3.heap.size (.slice a3 us3.length c3) us3) := k2.parts
        have HUa : Hid (Parts w3 w3.heap.size (.slice a2 us.length c2) us) := (HU.out.keep k3').mono k3'.size
        have HL3 : Hid (rd us3 = []) := k1
        have G3 := bt G2 k3'
        have d1 : w3.cell? ⟨w.heap.size, 0, none⟩ = some (.int .i64 u) := by rw [(bcell k3').1 _ _ (by omega), hc2 _ _ hz1, hc1 _ _ (by simp)]; simp [go_sem]
        have d2 : w3.cell? ⟨w.heap.size, 1, none⟩ = some (.int .i64 d) := by rw [(bcell k3').1 _ _ (by omega), hc2 _ _ hz1, hc1 _ _ (by simp)]; simp [go_sem]
        have hz3 : w2.heap.size ≤ w3.heap.size := k3'.size
        clear k1 k2 hc1 hf1 hc2 hf2 hb1 k3 k3' HU kc kd
        go_wp2
        go_ret
        exact ⟨rfl, G3⟩
      · have hn1 : ¬ n < 0 := by omega
        go_enter Try.func5, Try.ntmps5
        go_wp2_with fail
        refine (alive_any _).mono ?_
        rintro e w1 ⟨rfl, hb1⟩
        have G1 := bt (ba _ _) hb1
        obtain ⟨hc1, hf1⟩ := bcell hb1
        go_wp2_with fail
        refine (kc _).mono ?_
        rintro e w2 ⟨v2, us, rfl, k1, k2, k3, _⟩
        obtain ⟨a2, c2, rfl⟩ := k2.slice
        have HU : Hid (Parts w2 w2.heap.size (.slice a2 us.length c2) us) := k2.parts
        have HL : Hid (rd us = l) := k1
        have G2 := bt G1 k3
        obtain ⟨hc2, hf2⟩ := bcell k3
        have hz1 : w.heap.size < w1.heap.size := by have := hb1.size; simp at this; omega
        have hz2 : w1.heap.size ≤ w2.heap.size := k3.size
        clear k1 k2
        go_wp2_with fail
        refine (kd _).mono ?_
        rintro e w3 ⟨v3, us3, rfl, k1, k2, k3', _⟩
        obtain ⟨a3, c3, rfl⟩ := k2.slice
        have HU3 : Hid (Parts w3 w3.heap.size (.slice a3 us3.length c3) us3) := k2.parts
        have HUa : Hid (Parts w3 w3.heap.size (.slice a2 us.length c2) us) := (HU.out.keep k3').mono k3'.size
        have HL3 : Hid (rd us3 = []) := k1
        have G3 := bt G2 k3'
        have d1 : w3.cell? ⟨w.heap.size, 0, none⟩ = some (.int .i64 u) := by rw [(bcell k3').1 _ _ (by omega), hc2 _ _ hz1, hc1 _ _ (by simp)]; simp [go_sem]
        have d2 : w3.cell? ⟨w.heap.size, 1, none⟩ = some (.int .i64 d) := by rw [(bcell k3').1 _ _ (by omega), hc2 _ _ hz1, hc1 _ _ (by simp)]; simp [go_sem]
        have hz3 : w2.heap.size ≤ w3.heap.size := k3'.size
        clear k1 k2 hc1 hf1 hc2 hf2 hb1 k3 k3' HU kc kd
        go_wp2
        go_ret
        exact ⟨rfl, G3⟩
    · have kd := respond_fr u d many n l' 0 h2
      clear h1 h2 hn
      by_cases cm : m = n
      · rw [if_pos cm] at hf
        have HF : Hid (farT l l' = (1, 1, 0)) := hf
        have cm' : (m == n) = true := by simpa using cm
        have CM : Hid (m = n) := cm
        clear hf cm
        go_enter Try.func5, Try.ntmps5
        go_wp2_with fail
        refine (alive_any _).mono ?_
        rintro e w1 ⟨rfl, hb1⟩
        have G1 := bt (ba _ _) hb1
        obtain ⟨hc1, hf1⟩ := bcell hb1
        go_wp2_with fail
        refine (kc _).mono ?_
        rintro e w2 ⟨v2, us, rfl, k1, k2, k3, _⟩
        obtain ⟨a2, c2, rfl⟩ := k2.slice
        have HU : Hid (Parts w2 w2.heap.size (.slice a2 us.length c2) us) := k2.parts
        have HL : Hid (rd us = l) := k1
        have G2 := bt G1 k3
        obtain ⟨hc2, hf2⟩ := bcell k3
        have hz1 : w.heap.size < w1.heap.size := by have := hb1.size; simp at this; omega
        have hz2 : w1.heap.size ≤ w2.heap.size := k3.size
        clear k1 k2
        go_wp2_with fail
        refine (kd _).mono ?_
        rintro e w3 ⟨v3, us3, rfl, k1, k2, k3', _⟩
        obtain ⟨a3, c3, rfl⟩ := k2.slice
        have HU3 : Hid (Parts w3 w3.heap.size (.slice a3 us3.length c3) us3) := k2.parts
        have HUa : Hid (Parts w3 w3.heap.size (.slice a2 us.length c2) us) := (HU.out.keep k3').mono k3'.size
        have HL3 : Hid (rd us3 = l') := k1
        have G3 := bt G2 k3'
        have d1 : w3.cell? ⟨w.heap.size, 0, none⟩ = some (.int .i64 u) := by rw [(bcell k3').1 _ _ (by omega), hc2 _ _ hz1, hc1 _ _ (by simp)]; simp [go_sem]
        have d2 : w3.cell? ⟨w.heap.size, 1, none⟩ = some (.int .i64 d) := by rw [(bcell k3').1 _ _ (by omega), hc2 _ _ hz1, hc1 _ _ (by simp)]; simp [go_sem]
        have hz3 : w2.heap.size ≤ w3.heap.size := k3'.size
        clear k1 k2 hc1 hf1 hc2 hf2 hb1 k3 k3' HU kc kd
        go_wp2_with fail
        refine (far_any _ _ _ us us3 _ (Nat.le_refl _) HUa.out HU3.out 1 1 0 (by rw [HL.out, HL3.out]; exact HF.out)).mono ?_
        rintro e w5 ⟨rfl, hb5⟩
        have G5 := bt G3 hb5
        have j1 : w5.cell? ⟨w.heap.size, 0, none⟩ = some (.int .i64 u) := by rw [(bcell hb5).1 _ _ (by omega)]; exact d1
        have j2 : w5.cell? ⟨w.heap.size, 1, none⟩ = some (.int .i64 d) := by rw [(bcell hb5).1 _ _ (by omega)]; exact d2
        have hz5 : w.heap.size < w5.heap.size := by have := hb5.size; omega
        have ne : ¬ w.heap.size = w5.heap.size := by omega
        clear hb5 HUa HU3 d1 d2
        go_wp2
        go_ret
        exact ⟨rfl, bal G5 _⟩
      · rw [if_neg cm] at hf
        have HF : Hid (farT l l' = (u, d, 0)) := hf
        have cm' : (m == n) = false := by simpa using cm
        clear hf
        go_enter Try.func5, Try.ntmps5
        go_wp2_with fail
        refine (alive_any _).mono ?_
        rintro e w1 ⟨rfl, hb1⟩
        have G1 := bt (ba _ _) hb1
        obtain ⟨hc1, hf1⟩ := bcell hb1
        go_wp2_with fail
        refine (kc _).mono ?_
        rintro e w2 ⟨v2, us, rfl, k1, k2, k3, _⟩
        obtain ⟨a2, c2, rfl⟩ := k2.slice
        have HU : Hid (Parts w2 w2.heap.size (.slice a2 us.length c2) us) := k2.parts
        have HL : Hid (rd us = l) := k1
        have G2 := bt G1 k3
        obtain ⟨hc2, hf2⟩ := bcell k3
        have hz1 : w.heap.size < w1.heap.size := by have := hb1.size; simp at this; omega
        have hz2 : w1.heap.size ≤ w2.heap.size := k3.size
        clear k1 k2
        go_wp2_with fail
        refine (kd _).mono ?_
        rintro e w3 ⟨v3, us3, rfl, k1, k2, k3', _⟩
        obtain ⟨a3, c3, rfl⟩ := k2.slice
        have HU3 : Hid (Parts w3 w3.heap.size (.slice a3 us3.length c3) us3) := k2.parts
        have HUa : Hid (Parts w3 w3.heap.size (.slice a2 us.length c2) us) := (HU.out.keep k3').mono k3'.size
        have HL3 : Hid (rd us3 = l') := k1
        have G3 := bt G2 k3'
        have d1 : w3.cell? ⟨w.heap.size, 0, none⟩ = some (.int .i64 u) := by rw [(bcell k3').1 _ _ (by omega), hc2 _ _ hz1, hc1 _ _ (by simp)]; simp [go_sem]
        have d2 : w3.cell? ⟨w.heap.size, 1, none⟩ = some (.int .i64 d) := by rw [(bcell k3').1 _ _ (by omega), hc2 _ _ hz1, hc1 _ _ (by simp)]; simp [go_sem]
        have hz3 : w2.heap.size ≤ w3.heap.size := k3'.size
        clear k1 k2 hc1 hf1 hc2 hf2 hb1 k3 k3' HU kc kd
        go_wp2_with fail
        refine (far_any _ _ _ us us3 _ (Nat.le_refl _) HUa.out HU3.out u d 0 (by rw [HL.out, HL3.out]; exact HF.out)).mono ?_
        rintro e w5 ⟨rfl, hb5⟩
        have G5 := bt G3 hb5
        have j1 : w5.cell? ⟨w.heap.size, 0, none⟩ = some (.int .i64 u) := by rw [(bcell hb5).1 _ _ (by omega)]; exact d1
        have j2 : w5.cell? ⟨w.heap.size, 1, none⟩ = some (.int .i64 d) := by rw [(bcell hb5).1 _ _ (by omega)]; exact d2
        have hz5 : w.heap.size < w5.heap.size := by have := hb5.size; omega
        have ne : ¬ w.heap.size = w5.heap.size := by omega
        clear hb5 HUa HU3 d1 d2
        go_wp2
        go_ret
        exact ⟨rfl, bal G5 _⟩
  · have c1 : (e1 == 0) = false := by simpa using c
    have c2 : (e1 != 0) = true := by simpa using c
    clear h1
    go_enter Try.func5, Try.ntmps5
    go_wp2_with fail
    refine (alive_any _).mono ?_
    rintro e w1 ⟨rfl, hb1⟩
    have G1 := bt (ba _ _) hb1
    obtain ⟨hc1, hf1⟩ := bcell hb1
    go_wp2_with fail
    refine (kc _).mono ?_
    rintro e w2 ⟨v2, us, rfl, k1, k2, k3, _⟩
    obtain ⟨a2, c2, rfl⟩ := k2.slice
    have HU : Hid (Parts w2 w2.heap.size (.slice a2 us.length c2) us) := k2.parts
    have HL : Hid (rd us = l) := k1
    have G2 := bt G1 k3
    obtain ⟨hc2, hf2⟩ := bcell k3
    have hz1 : w.heap.size < w1.heap.size := by have := hb1.size; simp at this; omega
    have hz2 : w1.heap.size ≤ w2.heap.size := k3.size
    clear k1 k2
    go_wp2
    go_ret
    exact ⟨rfl, G2⟩
end Go.Proofs.Ytcmhokfeadeffaa
