import Derived.Test.YtcmhokfeadeffaaAlv
import Derived.Test.YtcmhokfeadeffaaNsk
import Derived.Test.YtcmhokfeadeffaaRfs
namespace Go.Proofs.Ytcmhokfeadeffaa
open Go.RowKit Go.Proofs.Ytcmhokfeadeffaa.Ds

set_option maxHeartbeats 4000000 in
set_option maxRecDepth 100000 in
theorem noiseKeeps_walk (u d lo hi m n : Int) (w : World) :
    Calls Try.prog 4 #[rv u d, .int .i64 lo, .int .i64 hi, .int .i64 m, .int .i64 n] w fun e w' => e = .returned (.bool true) ∧ Below w.heap.size w w' := by
  obtain ⟨⟨l, e1⟩, h1⟩ : ∃ x, hideT u d lo hi m = x := ⟨_, rfl⟩
  have kc := hide_fr u d lo hi m l e1 h1
  by_cases c : e1 = 0
  · subst c
    obtain ⟨l', h2, hloss, hsame, hfar⟩ := hide_two (n := n) h1
    have kd := hide_fr u d lo hi n l' 0 h2
    by_cases cs : u = d ∨ lo = hi
    · have HS : Hid (l = l') := hsame cs
      have y1 : (u == d || lo == hi) = true := by simpa using cs
      clear hsame hfar h1 h2 hloss cs
      go_enter Try.func4, Try.ntmps4
      go_wp2_with fail
      refine (alive_any _).mono ?_
      rintro e w1 ⟨rfl, hb1⟩
      have G1 := bt (ba _ _) hb1
      obtain ⟨hc1, hf1⟩ := bcell hb1
      go_wp2_with fail
      refine (kc _).mono ?_
      rintro e w2 ⟨v2, us, rfl, k1, k2, k3, _⟩
      obtain ⟨a2, c2, rfl⟩ := k2.slice
      have HU : Hid (Parts w2 w2.heap.size (.slice a2 us.length c2) us) := k2.parts
      have HL : Hid (rd us = l) := k1
      have G2 := bt G1 k3
      obtain ⟨hc2, hf2⟩ := bcell k3
      have hz1 : w.heap.size < w1.heap.size := by have := hb1.size; simp at this; omega
      have hz2 : w1.heap.size ≤ w2.heap.size := k3.size
      clear k1 k2
      go_wp2_with fail
      refine (kd _).mono ?_
      rintro e w3 ⟨v3, us3, rfl, k1, k2, k3', _⟩
      obtain ⟨a3, c3, rfl⟩ := k2.slice
      have HU3 : Hid (Parts w3 w3.heap.size (.slice a3 us3.length c3) us3) := k2.parts
      have HUa : Hid (Parts w3 w3.heap.size (.slice a2 us.length c2) us) := (HU.out.keep k3').mono k3'.size
      have HL3 : Hid (rd us3 = l') := k1
      have G3 := bt G2 k3'
      have d1 : w3.cell? ⟨w.heap.size, 0, none⟩ = some (.int .i64 u) := by rw [(bcell k3').1 _ _ (by omega), hc2 _ _ hz1, hc1 _ _ (by simp)]; simp [go_sem]
      have d2 : w3.cell? ⟨w.heap.size, 1, none⟩ = some (.int .i64 d) := by rw [(bcell k3').1 _ _ (by omega), hc2 _ _ hz1, hc1 _ _ (by simp)]; simp [go_sem]
      have hz3 : w2.heap.size ≤ w3.heap.size := k3'.size
      clear k1 k2 hc1 hf1 hc2 hf2 hb1 k3 k3' HU kc kd
      have ks := sameR_any w3.heap.size _ _ us us3 w3 (Nat.le_refl _) HUa.out HU3.out true (by rw [HL.out, HL3.out, HS.out]; simp)
      by_cases y2 : u = d
      · have y3 : (u == d) = true := by simpa using y2
        have Y2 : Hid (u = d) := y2
        clear y2
        go_wp2_with (go_at_call 8; refine ks.mono ?_; rintro e w4 ⟨rfl, hb4⟩)
        go_ret
        exact ⟨rfl, bt G3 hb4⟩
      · have y3 : (u == d) = false := by simpa using y2
        have y4 : (lo == hi) = true := by rw [y3] at y1; simpa using y1
        go_wp2_with (go_at_call 8; refine ks.mono ?_; rintro e w4 ⟨rfl, hb4⟩)
        go_ret
        exact ⟨rfl, bt G3 hb4⟩
    · have y2 : ¬ u = d := fun k => cs (.inl k)
      have y4 : ¬ lo = hi := fun k => cs (.inr k)
      obtain ⟨f, hf, hp, hff⟩ := hfar y2 y4
      have y3 : (u == d) = false := by simpa using y2
      have y5 : (lo == hi) = false := by simpa using y4
      have HF : Hid (farT l l' = (u ^ f, d ^ f, 0)) := hff
      have HP : Hid (Rt.powT u d (f : Int) = (u ^ f, d ^ f, 0)) := hp
      have HB : Hid (-1073741824 ≤ lo ∧ hi ≤ 1073741824) := by
        unfold hideT at h1
        rw [if_neg (by simpa using hloss)] at h1
        show _ ∧ _
        refine ⟨?_, ?_⟩
        · by_cases q : -1073741824 ≤ lo
          · exact q
          · rw [if_pos (by omega)] at h1; simp at h1
        · by_cases q : hi ≤ 1073741824
          · exact q
          · rw [if_pos (by omega)] at h1; simp at h1
      clear hsame hfar h1 h2 hloss cs hff hp
      by_cases t1 : m < lo
      · clear hf
        go_enter Try.func4, Try.ntmps4
        go_wp2_with fail
        refine (alive_any _).mono ?_
        rintro e w1 ⟨rfl, hb1⟩
        have G1 := bt (ba _ _) hb1
        obtain ⟨hc1, hf1⟩ := bcell hb1
        go_wp2_with fail
        refine (kc _).mono ?_
        rintro e w2 ⟨v2, us, rfl, k1, k2, k3, _⟩
        obtain ⟨a2, c2, rfl⟩ := k2.slice
        have HU : Hid (Parts w2 w2.heap.size (.slice a2 us.length c2) us) := k2.parts
        have HL : Hid (rd us = l) := k1
        have G2 := bt G1 k3
        obtain ⟨hc2, hf2⟩ := bcell k3
        have hz1 : w.heap.size < w1.heap.size := by have := hb1.size; simp at this; omega
        have hz2 : w1.heap.size ≤ w2.heap.size := k3.size
        clear k1 k2
        go_wp2_with fail
        refine (kd _).mono ?_
        rintro e w3 ⟨v3, us3, rfl, k1, k2, k3', _⟩
        obtain ⟨a3, c3, rfl⟩ := k2.slice
        have HU3 : Hid (Parts w3 w3.heap.size (.slice a3 us3.length c3) us3) := k2.parts
        have HUa : Hid (Parts w3 w3.heap.size (.slice a2 us.length c2) us) := (HU.out.keep k3').mono k3'.size
        have HL3 : Hid (rd us3 = l') := k1
        have G3 := bt G2 k3'
        have d1 : w3.cell? ⟨w.heap.size, 0, none⟩ = some (.int .i64 u) := by rw [(bcell k3').1 _ _ (by omega), hc2 _ _ hz1, hc1 _ _ (by simp)]; simp [go_sem]
        have d2 : w3.cell? ⟨w.heap.size, 1, none⟩ = some (.int .i64 d) := by rw [(bcell k3').1 _ _ (by omega), hc2 _ _ hz1, hc1 _ _ (by simp)]; simp [go_sem]
        have hz3 : w2.heap.size ≤ w3.heap.size := k3'.size
        clear k1 k2 hc1 hf1 hc2 hf2 hb1 k3 k3' HU kc kd
        go_wp2
        go_ret
        exact ⟨rfl, G3⟩
      · by_cases t2 : n < lo
        · clear hf
          go_enter Try.func4, Try.ntmps4
          go_wp2_with fail
          refine (alive_any _).mono ?_
          rintro e w1 ⟨rfl, hb1⟩
          have G1 := bt (ba _ _) hb1
          obtain ⟨hc1, hf1⟩ := bcell hb1
          go_wp2_with fail
          refine (kc _).mono ?_
          rintro e w2 ⟨v2, us, rfl, k1, k2, k3, _⟩
          obtain ⟨a2, c2, rfl⟩ := k2.slice
          have HU : Hid (Parts w2 w2.heap.size (.slice a2 us.length c2) us) := k2.parts
          have HL : Hid (rd us = l) := k1
          have G2 := bt G1 k3
          obtain ⟨hc2, hf2⟩ := bcell k3
          have hz1 : w.heap.size < w1.heap.size := by have := hb1.size; simp at this; omega
          have hz2 : w1.heap.size ≤ w2.heap.size := k3.size
          clear k1 k2
          go_wp2_with fail
          refine (kd _).mono ?_
          rintro e w3 ⟨v3, us3, rfl, k1, k2, k3', _⟩
          obtain ⟨a3, c3, rfl⟩ := k2.slice
          have HU3 : Hid (Parts w3 w3.heap.size (.slice a3 us3.length c3) us3) := k2.parts
          have HUa : Hid (Parts w3 w3.heap.size (.slice a2 us.length c2) us) := (HU.out.keep k3').mono k3'.size
          have HL3 : Hid (rd us3 = l') := k1
          have G3 := bt G2 k3'
          have d1 : w3.cell? ⟨w.heap.size, 0, none⟩ = some (.int .i64 u) := by rw [(bcell k3').1 _ _ (by omega), hc2 _ _ hz1, hc1 _ _ (by simp)]; simp [go_sem]
          have d2 : w3.cell? ⟨w.heap.size, 1, none⟩ = some (.int .i64 d) := by rw [(bcell k3').1 _ _ (by omega), hc2 _ _ hz1, hc1 _ _ (by simp)]; simp [go_sem]
          have hz3 : w2.heap.size ≤ w3.heap.size := k3'.size
          clear k1 k2 hc1 hf1 hc2 hf2 hb1 k3 k3' HU kc kd
          go_wp2
          go_ret
          exact ⟨rfl, G3⟩
        · by_cases t3 : hi < m
          · clear hf
            go_enter Try.func4, Try.ntmps4
            go_wp2_with fail
            refine (alive_any _).mono ?_
            rintro e w1 ⟨rfl, hb1⟩
            have G1 := bt (ba _ _) hb1
            obtain ⟨hc1, hf1⟩ := bcell hb1
            go_wp2_with fail
            refine (kc _).mono ?_
            rintro e w2 ⟨v2, us, rfl, k1, k2, k3, _⟩
            obtain ⟨a2, c2, rfl⟩ := k2.slice
            have HU : Hid (Parts w2 w2.heap.size (.slice a2 us.length c2) us) := k2.parts
            have HL : Hid (rd us = l) := k1
            have G2 := bt G1 k3
            obtain ⟨hc2, hf2⟩ := bcell k3
            have hz1 : w.heap.size < w1.heap.size := by have := hb1.size; simp at this; omega
            have hz2 : w1.heap.size ≤ w2.heap.size := k3.size
            clear k1 k2
            go_wp2_with fail
            refine (kd _).mono ?_
            rintro e w3 ⟨v3, us3, rfl, k1, k2, k3', _⟩
            obtain ⟨a3, c3, rfl⟩ := k2.slice
            have HU3 : Hid (Parts w3 w3.heap.size (.slice a3 us3.length c3) us3) := k2.parts
            have HUa : Hid (Parts w3 w3.heap.size (.slice a2 us.length c2) us) := (HU.out.keep k3').mono k3'.size
            have HL3 : Hid (rd us3 = l') := k1
            have G3 := bt G2 k3'
            have d1 : w3.cell? ⟨w.heap.size, 0, none⟩ = some (.int .i64 u) := by rw [(bcell k3').1 _ _ (by omega), hc2 _ _ hz1, hc1 _ _ (by simp)]; simp [go_sem]
            have d2 : w3.cell? ⟨w.heap.size, 1, none⟩ = some (.int .i64 d) := by rw [(bcell k3').1 _ _ (by omega), hc2 _ _ hz1, hc1 _ _ (by simp)]; simp [go_sem]
            have hz3 : w2.heap.size ≤ w3.heap.size := k3'.size
            clear k1 k2 hc1 hf1 hc2 hf2 hb1 k3 k3' HU kc kd
            go_wp2
            go_ret
            exact ⟨rfl, G3⟩
          · by_cases t4 : hi < n
            · clear hf
              go_enter Try.func4, Try.ntmps4
              go_wp2_with fail
              refine (alive_any _).mono ?_
              rintro e w1 ⟨rfl, hb1⟩
              have G1 := bt (ba _ _) hb1
              obtain ⟨hc1, hf1⟩ := bcell hb1
              go_wp2_with fail
              refine (kc _).mono ?_
              rintro e w2 ⟨v2, us, rfl, k1, k2, k3, _⟩
              obtain ⟨a2, c2, rfl⟩ := k2.slice
              have HU : Hid (Parts w2 w2.heap.size (.slice a2 us.length c2) us) := k2.parts
              have HL : Hid (rd us = l) := k1
              have G2 := bt G1 k3
              obtain ⟨hc2, hf2⟩ := bcell k3
              have hz1 : w.heap.size < w1.heap.size := by have := hb1.size; simp at this; omega
              have hz2 : w1.heap.size ≤ w2.heap.size := k3.size
              clear k1 k2
              go_wp2_with fail
              refine (kd _).mono ?_
              rintro e w3 ⟨v3, us3, rfl, k1, k2, k3', _⟩
              obtain ⟨a3, c3, rfl⟩ := k2.slice
              have HU3 : Hid (Parts w3 w3.heap.size (.slice a3 us3.length c3) us3) := k2.parts
              have HUa : Hid (Parts w3 w3.heap.size (.slice a2 us.length c2) us) := (HU.out.keep k3').mono k3'.size
              have HL3 : Hid (rd us3 = l') := k1
              have G3 := bt G2 k3'
              have d1 : w3.cell? ⟨w.heap.size, 0, none⟩ = some (.int .i64 u) := by rw [(bcell k3').1 _ _ (by omega), hc2 _ _ hz1, hc1 _ _ (by simp)]; simp [go_sem]
              have d2 : w3.cell? ⟨w.heap.size, 1, none⟩ = some (.int .i64 d) := by rw [(bcell k3').1 _ _ (by omega), hc2 _ _ hz1, hc1 _ _ (by simp)]; simp [go_sem]
              have hz3 : w2.heap.size ≤ w3.heap.size := k3'.size
              clear k1 k2 hc1 hf1 hc2 hf2 hb1 k3 k3' HU kc kd
              go_wp2
              go_ret
              exact ⟨rfl, G3⟩
            · obtain ⟨b1, b2⟩ := HB.out
              have hf' : (f : Int) = max (m - n) (n - m) := by
                rw [hf]; unfold plcT
                rw [show min (max m lo) hi = m by omega, show min (max n lo) hi = n by omega]
              clear hf
              obtain ⟨p, hp'⟩ : ∃ p, u ^ f = p := ⟨_, rfl⟩
              obtain ⟨q, hq'⟩ : ∃ q, d ^ f = q := ⟨_, rfl⟩
              rw [hp', hq'] at HF HP
              clear hp' hq'
              have q1 : m - n < 0 ∨ ¬ m - n < 0 := by omega
              have kp : ∀ (x : Int) (W : World), x = (f : Int) → Calls Try.prog 17 #[rv u d, .int .i64 x] W fun x w' => x = .returned (.tuple #[rv p q, .int .i64 0]) ∧ Below W.heap.size W w' := fun x W hx => by subst hx; exact refPower_any u d f _ _ 0 HP.out W
              rcases q1 with q1 | q1
              all_goals
                go_enter Try.func4, Try.ntmps4
                go_wp2_with fail
                refine (alive_any _).mono ?_
                rintro e w1 ⟨rfl, hb1⟩
                have G1 := bt (ba _ _) hb1
                obtain ⟨hc1, hf1⟩ := bcell hb1
                go_wp2_with fail
                refine (kc _).mono ?_
                rintro e w2 ⟨v2, us, rfl, k1, k2, k3, _⟩
                obtain ⟨a2, c2, rfl⟩ := k2.slice
                have HU : Hid (Parts w2 w2.heap.size (.slice a2 us.length c2) us) := k2.parts
                have HL : Hid (rd us = l) := k1
                have G2 := bt G1 k3
                obtain ⟨hc2, hf2⟩ := bcell k3
                have hz1 : w.heap.size < w1.heap.size := by have := hb1.size; simp at this; omega
                have hz2 : w1.heap.size ≤ w2.heap.size := k3.size
                clear k1 k2
                go_wp2_with fail
                refine (kd _).mono ?_
                rintro e w3 ⟨v3, us3, rfl, k1, k2, k3', _⟩
                obtain ⟨a3, c3, rfl⟩ := k2.slice
                have HU3 : Hid (Parts w3 w3.heap.size (.slice a3 us3.length c3) us3) := k2.parts
                have HUa : Hid (Parts w3 w3.heap.size (.slice a2 us.length c2) us) := (HU.out.keep k3').mono k3'.size
                have HL3 : Hid (rd us3 = l') := k1
                have G3 := bt G2 k3'
                have d1 : w3.cell? ⟨w.heap.size, 0, none⟩ = some (.int .i64 u) := by rw [(bcell k3').1 _ _ (by omega), hc2 _ _ hz1, hc1 _ _ (by simp)]; simp [go_sem]
                have d2 : w3.cell? ⟨w.heap.size, 1, none⟩ = some (.int .i64 d) := by rw [(bcell k3').1 _ _ (by omega), hc2 _ _ hz1, hc1 _ _ (by simp)]; simp [go_sem]
                have hz3 : w2.heap.size ≤ w3.heap.size := k3'.size
                clear k1 k2 hc1 hf1 hc2 hf2 hb1 k3 k3' HU kc kd
                go_wp2_with fail
                refine (kp _ _ (by omega)).mono ?_
                rintro e w4 ⟨rfl, hb4⟩
                have G4 := bt G3 hb4
                have HC4 : Hid (Fc w4.heap.size p q (w4.alloc (.cells #[.int .i64 p, .int .i64 q] 23))) := fc_new _ _ _
                have HUb : Hid (Parts (w4.alloc (.cells #[.int .i64 p, .int .i64 q] 23)) (w4.alloc (.cells #[.int .i64 p, .int .i64 q] 23)).heap.size (.slice a2 us.length c2) us) := (HUa.out.keep (bt hb4 (ba _ _))).mono (bt hb4 (ba _ _)).size
                have HU4 : Hid (Parts (w4.alloc (.cells #[.int .i64 p, .int .i64 q] 23)) (w4.alloc (.cells #[.int .i64 p, .int .i64 q] 23)).heap.size (.slice a3 us3.length c3) us3) := (HU3.out.keep (bt hb4 (ba _ _))).mono (bt hb4 (ba _ _)).size
                go_wp2_with fail
                refine (far_any _ _ _ us us3 _ (Nat.le_refl _) HUb.out HU4.out p q 0 (by rw [HL.out, HL3.out]; exact HF.out)).mono ?_
                rintro e w5 ⟨rfl, hb5⟩
                have HC5 : Hid (Fc w4.heap.size p q w5) := HC4.out.at hb5 (by simp)
                have G5 := bt G4 (bt (ba _ _) hb5)
                obtain ⟨j1, j2, j3, j4⟩ := HC5.out
                have hz5 : w4.heap.size < w5.heap.size := by have := hb5.size; simp at this; omega
                have ne : ¬ w4.heap.size = w5.heap.size := by omega
                clear hb4 hb5 HC4 HC5 HUb HU4 HUa HU3
                go_wp2
                go_ret
                exact ⟨rfl, bal G5 _⟩
  · have c1 : (e1 == 0) = false := by simpa using c
    have c2 : (e1 != 0) = true := by simpa using c
    clear h1
    go_enter Try.func4, Try.ntmps4
    go_wp2_with fail
    refine (alive_any _).mono ?_
    rintro e w1 ⟨rfl, hb1⟩
    have G1 := bt (ba _ _) hb1
    obtain ⟨hc1, hf1⟩ := bcell hb1
    go_wp2_with fail
    refine (kc _).mono ?_
    rintro e w2 ⟨v2, us, rfl, k1, k2, k3, _⟩
    obtain ⟨a2, c2, rfl⟩ := k2.slice
    have HU : Hid (Parts w2 w2.heap.size (.slice a2 us.length c2) us) := k2.parts
    have HL : Hid (rd us = l) := k1
    have G2 := bt G1 k3
    obtain ⟨hc2, hf2⟩ := bcell k3
    have hz1 : w.heap.size < w1.heap.size := by have := hb1.size; simp at this; omega
    have hz2 : w1.heap.size ≤ w2.heap.size := k3.size
    clear k1 k2
    go_wp2
    go_ret
    exact ⟨rfl, G2⟩
end Go.Proofs.Ytcmhokfeadeffaa
