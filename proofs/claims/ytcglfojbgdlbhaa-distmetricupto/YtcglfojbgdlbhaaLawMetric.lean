import Derived.Test.YtcglfojbgdlbhaaAlv
import Derived.Deep.DeepCutAuto
namespace Go.Proofs.Ytcglfojbgdlbhaa
open Go.RowKit Go.Proofs.Ytcglfojbgdlbhaa.Ds

theorem Fc.draw {b : Nat} {n m : Int} {W : World} (h : Fc b n m W) : Fc b n m W.drew := h

set_option maxHeartbeats 8000000 in
set_option maxRecDepth 100000 in
theorem distMetric_walk (B : Nat) (v0 v1 v2 : Value) (ts us ks : List Tr) (w : World) (hB : B ≤ w.heap.size) (hp : Parts w B v0 ts) (hq : Parts w B v1 us) (hk : Parts w B v2 ks) :
    Calls Try.prog 7 #[v0, v1, v2] w fun e w' => e = .returned (.bool true) ∧ Below w.heap.size w w' := by
  have H0 : Hid (Parts w B v0 ts) := hp
  have H1 : Hid (Parts w B v1 us) := hq
  have H2 : Hid (Parts w B v2 ks) := hk
  obtain ⟨a0, c0, rfl, _⟩ := hp
  obtain ⟨a1, c1, rfl, _⟩ := hq
  obtain ⟨a2, c2, rfl, _⟩ := hk
  obtain ⟨⟨n1, d1, e1⟩, HF1⟩ : ∃ x, Hid (farT (rd ts) (rd us) = x) := ⟨_, rfl⟩
  obtain ⟨e2, hF2, he2⟩ := far_swap HF1.out
  have HF2 : Hid (farT (rd us) (rd ts) = (n1, d1, e2) ∧ (e1 = 0 ↔ e2 = 0)) := ⟨hF2, he2⟩
  obtain ⟨⟨p1, q1, f1⟩, HA1⟩ : ∃ x, Hid (apartT (rd ts) (rd us) = x) := ⟨_, rfl⟩
  obtain ⟨f2, hA2, hf2⟩ := apart_swap HA1.out
  have HA2 : Hid (apartT (rd us) (rd ts) = (p1, q1, f2) ∧ (f1 = 0 ↔ f2 = 0)) := ⟨hA2, hf2⟩
  obtain ⟨⟨n3, d3, e3⟩, HF3⟩ : ∃ x, Hid (farT (rd us) (rd ks) = x) := ⟨_, rfl⟩
  obtain ⟨⟨n4, d4, e4⟩, HF4⟩ : ∃ x, Hid (farT (rd ts) (rd ks) = x) := ⟨_, rfl⟩
  obtain ⟨⟨p3, q3, f3⟩, HA3⟩ : ∃ x, Hid (apartT (rd us) (rd ks) = x) := ⟨_, rfl⟩
  obtain ⟨⟨p4, q4, f4⟩, HA4⟩ : ∃ x, Hid (apartT (rd ts) (rd ks) = x) := ⟨_, rfl⟩
  obtain ⟨⟨n5, d5, e5⟩, HT5⟩ : ∃ x, Hid (Rt.timesT n1 d1 n3 d3 = x) := ⟨_, rfl⟩
  obtain ⟨⟨p5, q5, f5⟩, HT6⟩ : ∃ x, Hid (Rt.plusT p1 q1 p3 q3 = x) := ⟨_, rfl⟩
  clear hF2 he2 hA2 hf2
  go_enter Try.func7, Try.ntmps7
  go_wp2_with fail
  refine (alive_any w).mono ?_
  rintro e w0 ⟨rfl, G0⟩
  go_wp2_with fail
  refine (far_any B _ _ ts us w0 (Nat.le_trans hB G0.size) (H0.out.at hB G0) (H1.out.at hB G0) n1 d1 e1 HF1.out).mono ?_
  rintro e w1 ⟨rfl, hb1⟩
  have G1 : Below w.heap.size w (w1.alloc (.cells #[.int .i64 n1, .int .i64 d1] 34)) := bal (bt G0 hb1) _
  have HC1 : Hid (Fc w1.heap.size n1 d1 (w1.alloc (.cells #[.int .i64 n1, .int .i64 d1] 34))) := fc_new _ _ _
  have t1 : w.heap.size ≤ w1.heap.size := (bt G0 hb1).size
  clear hb1 G0
  go_wp2_with fail
  refine (far_any B _ _ us ts _ (Nat.le_trans hB G1.size) (H1.out.at hB G1) (H0.out.at hB G1) n1 d1 e2 HF2.out.1).mono ?_
  rintro e w2 ⟨rfl, hb2⟩
  have t2 : w1.heap.size < w2.heap.size := by have := hb2.size; simp at this; omega
  have HC1b : Hid (Fc w1.heap.size n1 d1 w2) := HC1.out.at hb2 (by simp)
  have G2 : Below w.heap.size w w2 := bt G1 hb2
  clear hb2 G1 HC1
  go_upto_region 5 with fail
  obtain ⟨W2, hW2⟩ : ∃ W, w2.alloc (.cells #[.int .i64 n1, .int .i64 d1] 34) = W := ⟨_, rfl⟩
  have G2' : Below w.heap.size w W2 := hW2 ▸ bal G2 _
  have HC1c : Hid (Fc w1.heap.size n1 d1 W2) := hW2 ▸ HC1b.out.at (ba _ _) (by omega)
  have HC2 : Hid (Fc w2.heap.size n1 d1 W2) := hW2 ▸ fc_new _ _ _
  have t3 : W2.heap.size = w2.heap.size + 1 := by rw [← hW2]; simp
  rw [hW2]
  clear hW2 HC1b G2
  go_cut [70] (fun c wx => c = .bool false ∧ Below W2.heap.size W2 wx)
  case first => as_aux_lemma =>
    obtain ⟨c1a, c1b, _, _⟩ := HC1c.out
    obtain ⟨c2a, c2b, _, _⟩ := HC2.out
    by_cases z1 : e1 = 0
    · subst z1
      obtain rfl : e2 = 0 := HF2.out.2.1 rfl
      have GW := G2'
      have hBW : B ≤ W2.heap.size := Nat.le_trans hB GW.size
      have l7 : w1.heap.size < W2.heap.size := by omega
      have l9 : w2.heap.size < W2.heap.size := by omega
      by_cases hs : rd ts = rd us
      · obtain ⟨rfl, rfl⟩ := (far_one HF1.out).2 hs
        have HS : Hid (decide (rd ts = rd us) = true) := decide_eq_true hs
        clear hs
        go_region_held3 (fun w' => Below W2.heap.size W2 w' ∧ w'.cell? ⟨w1.heap.size, 0, none⟩ = some (.int .i64 1) ∧ w'.cell? ⟨w1.heap.size, 1, none⟩ = some (.int .i64 1) ∧ w'.cell? ⟨w2.heap.size, 0, none⟩ = some (.int .i64 1) ∧ w'.cell? ⟨w2.heap.size, 1, none⟩ = some (.int .i64 1))
          ((go_split_ands; refine ⟨?_, ?_, ?_, ?_, ?_⟩ <;> first | (simp [go_sem, *]; done) | (exact (Below.refl _ _).drew) | (exact bt (Below.refl _ _).drew hb5)))
          ((go_at_call 11; refine (sameR_any B _ _ ts us _ ?_ ?_ ?_ true HS.out).mono ?_; (show B ≤ W2.heap.size; exact hBW); (exact H0.out.at hB GW.drew); (exact H1.out.at hB GW.drew); rintro x5 w5 ⟨rfl, hb5⟩; obtain ⟨hc5, hf5⟩ := bcell hb5; have i1 : w5.cell? ⟨w1.heap.size, 0, none⟩ = some (.int .i64 1) := (hc5 _ _ l7).trans c1a; have i2 : w5.cell? ⟨w1.heap.size, 1, none⟩ = some (.int .i64 1) := (hc5 _ _ l7).trans c1b; have i3 : w5.cell? ⟨w2.heap.size, 0, none⟩ = some (.int .i64 1) := (hc5 _ _ l9).trans c2a; have i4 : w5.cell? ⟨w2.heap.size, 1, none⟩ = some (.int .i64 1) := (hc5 _ _ l9).trans c2b; clear hc5 hf5))
        rename_i hHeld
        go_wp2
        go_meet
        exact ⟨rfl, hHeld.1⟩
      · have hge := far_ge HF1.out
        have hn1 : ¬ n1 = 1 := fun h => hs ((far_one HF1.out).1 ⟨h, by have := (far_told HF1.out).2.2.2.2.1; omega⟩)
        have hn1' : (n1 == 1) = false := by simpa using hn1
        have hge' : decide (n1 < d1) = false := decide_eq_false hge
        have HS : Hid (decide (rd ts = rd us) = false) := decide_eq_false hs
        clear hs
        go_region_held3 (fun w' => Below W2.heap.size W2 w' ∧ w'.cell? ⟨w1.heap.size, 0, none⟩ = some (.int .i64 n1) ∧ w'.cell? ⟨w1.heap.size, 1, none⟩ = some (.int .i64 d1) ∧ w'.cell? ⟨w2.heap.size, 0, none⟩ = some (.int .i64 n1) ∧ w'.cell? ⟨w2.heap.size, 1, none⟩ = some (.int .i64 d1))
          ((go_split_ands; refine ⟨?_, ?_, ?_, ?_, ?_⟩ <;> first | (simp [go_sem, *]; done) | (exact (Below.refl _ _).drew) | (exact bt (Below.refl _ _).drew hb5)))
          ((go_at_call 11; refine (sameR_any B _ _ ts us _ ?_ ?_ ?_ false HS.out).mono ?_; (show B ≤ W2.heap.size; exact hBW); (exact H0.out.at hB GW.drew); (exact H1.out.at hB GW.drew); rintro x5 w5 ⟨rfl, hb5⟩; obtain ⟨hc5, hf5⟩ := bcell hb5; have i1 : w5.cell? ⟨w1.heap.size, 0, none⟩ = some (.int .i64 n1) := (hc5 _ _ l7).trans c1a; have i2 : w5.cell? ⟨w1.heap.size, 1, none⟩ = some (.int .i64 d1) := (hc5 _ _ l7).trans c1b; have i3 : w5.cell? ⟨w2.heap.size, 0, none⟩ = some (.int .i64 n1) := (hc5 _ _ l9).trans c2a; have i4 : w5.cell? ⟨w2.heap.size, 1, none⟩ = some (.int .i64 d1) := (hc5 _ _ l9).trans c2b; clear hc5 hf5))
        rename_i hHeld
        go_wp2
        go_meet
        exact ⟨rfl, hHeld.1⟩
    · have z2 : ¬ e2 = 0 := fun h => z1 (HF2.out.2.2 h)
      have z1' : (e1 == 0) = false := by simpa using z1
      have z2' : (e2 == 0) = false := by simpa using z2
      go_quiet (fail)
      go_wp2
      go_meet
      exact ⟨rfl, below_drewN (Below.refl _ _) _⟩
  case rest => as_aux_lemma =>
    obtain ⟨rfl, hbc⟩ := hcut
    have G3 : Below w.heap.size w wc := bt G2' hbc
    have D1 : Hid (Fc w1.heap.size n1 d1 wc) := HC1c.out.at hbc (by omega)
    have D2 : Hid (Fc w2.heap.size n1 d1 wc) := HC2.out.at hbc (by omega)
    have t4 : w2.heap.size < wc.heap.size := by have := hbc.size; omega
    clear HC1c HC2 hbc G2' t3
    go_wp2_with fail
    refine (apart_any B _ _ ts us wc (Nat.le_trans hB G3.size) (H0.out.at hB G3) (H1.out.at hB G3) p1 q1 f1 HA1.out).mono ?_
    rintro e w4 ⟨rfl, hb4⟩
    have t5 : wc.heap.size ≤ w4.heap.size := hb4.size
    have hb4' : Below wc.heap.size wc (w4.alloc (.cells #[.int .i64 p1, .int .i64 q1] 34)) := bal hb4 _
    have G4 : Below w.heap.size w (w4.alloc (.cells #[.int .i64 p1, .int .i64 q1] 34)) := bt G3 hb4'
    have E1 : Hid (Fc w1.heap.size n1 d1 (w4.alloc (.cells #[.int .i64 p1, .int .i64 q1] 34))) := D1.out.at hb4' (by omega)
    have E2 : Hid (Fc w2.heap.size n1 d1 (w4.alloc (.cells #[.int .i64 p1, .int .i64 q1] 34))) := D2.out.at hb4' (by omega)
    have E4 : Hid (Fc w4.heap.size p1 q1 (w4.alloc (.cells #[.int .i64 p1, .int .i64 q1] 34))) := fc_new _ _ _
    clear hb4 hb4' D1 D2 G3
    go_wp2_with fail
    refine (apart_any B _ _ us ts _ (Nat.le_trans hB G4.size) (H1.out.at hB G4) (H0.out.at hB G4) p1 q1 f2 HA2.out.1).mono ?_
    rintro e w5 ⟨rfl, hb5⟩
    have t6 : w4.heap.size < w5.heap.size := by have := hb5.size; simp at this; omega
    have E1b : Hid (Fc w1.heap.size n1 d1 w5) := E1.out.at hb5 (by simp; omega)
    have E2b : Hid (Fc w2.heap.size n1 d1 w5) := E2.out.at hb5 (by simp; omega)
    have E4b : Hid (Fc w4.heap.size p1 q1 w5) := E4.out.at hb5 (by simp)
    have G5 : Below w.heap.size w w5 := bt G4 hb5
    clear hb5 G4 E1 E2 E4
    go_upto_region 9 with fail
    obtain ⟨W5, hW5⟩ : ∃ W, w5.alloc (.cells #[.int .i64 p1, .int .i64 q1] 34) = W := ⟨_, rfl⟩
    have G5' : Below w.heap.size w W5 := hW5 ▸ bal G5 _
    have E1c : Hid (Fc w1.heap.size n1 d1 W5) := hW5 ▸ E1b.out.at (ba _ _) (by omega)
    have E2c : Hid (Fc w2.heap.size n1 d1 W5) := hW5 ▸ E2b.out.at (ba _ _) (by omega)
    have E4c : Hid (Fc w4.heap.size p1 q1 W5) := hW5 ▸ E4b.out.at (ba _ _) (by omega)
    have E5c : Hid (Fc w5.heap.size p1 q1 W5) := hW5 ▸ fc_new _ _ _
    have t7 : W5.heap.size = w5.heap.size + 1 := by rw [← hW5]; simp
    rw [hW5]
    clear hW5 E1b E2b E4b G5
    go_cut [116] (fun c wx => c = .bool false ∧ Below W5.heap.size W5 wx)
    case first => as_aux_lemma =>
      obtain ⟨c1a, c1b, _, _⟩ := E4c.out
      obtain ⟨c2a, c2b, _, _⟩ := E5c.out
      by_cases z1 : f1 = 0
      · subst z1
        obtain rfl : f2 = 0 := HA2.out.2.1 rfl
        have GW := G5'
        have hBW : B ≤ W5.heap.size := Nat.le_trans hB GW.size
        have l7 : w4.heap.size < W5.heap.size := by omega
        have l9 : w5.heap.size < W5.heap.size := by omega
        have hle := apart_le HA1.out
        have hle' : decide (q1 < p1) = false := decide_eq_false hle
        by_cases hs : rd ts = rd us
        · obtain rfl := (apart_zero HA1.out).2 hs
          have HS : Hid (decide (rd ts = rd us) = true) := decide_eq_true hs
          clear hs
          go_region_held3 (fun w' => Below W5.heap.size W5 w' ∧ w'.cell? ⟨w4.heap.size, 0, none⟩ = some (.int .i64 0) ∧ w'.cell? ⟨w4.heap.size, 1, none⟩ = some (.int .i64 q1) ∧ w'.cell? ⟨w5.heap.size, 0, none⟩ = some (.int .i64 0) ∧ w'.cell? ⟨w5.heap.size, 1, none⟩ = some (.int .i64 q1))
            ((go_split_ands; refine ⟨?_, ?_, ?_, ?_, ?_⟩ <;> first | (simp [go_sem, *]; done) | (exact (Below.refl _ _).drew) | (exact bt (Below.refl _ _).drew hb9)))
            ((go_at_call 11; refine (sameR_any B _ _ ts us _ ?_ ?_ ?_ true HS.out).mono ?_; (show B ≤ W5.heap.size; exact hBW); (exact H0.out.at hB GW.drew); (exact H1.out.at hB GW.drew); rintro x9 w9 ⟨rfl, hb9⟩; obtain ⟨hc9, hf9⟩ := bcell hb9; have i1 : w9.cell? ⟨w4.heap.size, 0, none⟩ = some (.int .i64 0) := (hc9 _ _ l7).trans c1a; have i2 : w9.cell? ⟨w4.heap.size, 1, none⟩ = some (.int .i64 q1) := (hc9 _ _ l7).trans c1b; have i3 : w9.cell? ⟨w5.heap.size, 0, none⟩ = some (.int .i64 0) := (hc9 _ _ l9).trans c2a; have i4 : w9.cell? ⟨w5.heap.size, 1, none⟩ = some (.int .i64 q1) := (hc9 _ _ l9).trans c2b; clear hc9 hf9))
          rename_i hHeld
          go_wp2
          go_meet
          exact ⟨rfl, hHeld.1⟩
        · have hn1 : ¬ p1 = 0 := fun h => hs ((apart_zero HA1.out).1 h)
          have hn1' : (p1 == 0) = false := by simpa using hn1
          have HS : Hid (decide (rd ts = rd us) = false) := decide_eq_false hs
          clear hs
          go_region_held3 (fun w' => Below W5.heap.size W5 w' ∧ w'.cell? ⟨w4.heap.size, 0, none⟩ = some (.int .i64 p1) ∧ w'.cell? ⟨w4.heap.size, 1, none⟩ = some (.int .i64 q1) ∧ w'.cell? ⟨w5.heap.size, 0, none⟩ = some (.int .i64 p1) ∧ w'.cell? ⟨w5.heap.size, 1, none⟩ = some (.int .i64 q1))
            ((go_split_ands; refine ⟨?_, ?_, ?_, ?_, ?_⟩ <;> first | (simp [go_sem, *]; done) | (exact (Below.refl _ _).drew) | (exact bt (Below.refl _ _).drew hb9)))
            ((go_at_call 11; refine (sameR_any B _ _ ts us _ ?_ ?_ ?_ false HS.out).mono ?_; (show B ≤ W5.heap.size; exact hBW); (exact H0.out.at hB GW.drew); (exact H1.out.at hB GW.drew); rintro x9 w9 ⟨rfl, hb9⟩; obtain ⟨hc9, hf9⟩ := bcell hb9; have i1 : w9.cell? ⟨w4.heap.size, 0, none⟩ = some (.int .i64 p1) := (hc9 _ _ l7).trans c1a; have i2 : w9.cell? ⟨w4.heap.size, 1, none⟩ = some (.int .i64 q1) := (hc9 _ _ l7).trans c1b; have i3 : w9.cell? ⟨w5.heap.size, 0, none⟩ = some (.int .i64 p1) := (hc9 _ _ l9).trans c2a; have i4 : w9.cell? ⟨w5.heap.size, 1, none⟩ = some (.int .i64 q1) := (hc9 _ _ l9).trans c2b; clear hc9 hf9))
          rename_i hHeld
          go_wp2
          go_meet
          exact ⟨rfl, hHeld.1⟩
      · have z2 : ¬ f2 = 0 := fun h => z1 (HA2.out.2.2 h)
        have z1' : (f1 == 0) = false := by simpa using z1
        have z2' : (f2 == 0) = false := by simpa using z2
        go_quiet (fail)
        go_wp2
        go_meet
        exact ⟨rfl, below_drewN (Below.refl _ _) _⟩
    case rest => as_aux_lemma =>
      obtain ⟨rfl, hbc⟩ := hcut
      have G6 : Below w.heap.size w wc := bt G5' hbc
      have F1 : Hid (Fc w1.heap.size n1 d1 wc) := E1c.out.at hbc (by omega)
      have F2 : Hid (Fc w2.heap.size n1 d1 wc) := E2c.out.at hbc (by omega)
      have F4 : Hid (Fc w4.heap.size p1 q1 wc) := E4c.out.at hbc (by omega)
      have F5 : Hid (Fc w5.heap.size p1 q1 wc) := E5c.out.at hbc (by omega)
      have t8 : w5.heap.size < wc.heap.size := by have := hbc.size; omega
      clear E1c E2c E4c E5c hbc G5' t7
      go_wp2_with fail
      refine (far_any B _ _ us ks wc (Nat.le_trans hB G6.size) (H1.out.at hB G6) (H2.out.at hB G6) n3 d3 e3 HF3.out).mono ?_
      rintro e w7 ⟨rfl, hb7⟩
      have t9 : wc.heap.size ≤ w7.heap.size := hb7.size
      have G7 : Below w.heap.size w w7 := bt G6 hb7
      have F1b : Hid (Fc w1.heap.size n1 d1 w7) := F1.out.at hb7 (by omega)
      have F2b : Hid (Fc w2.heap.size n1 d1 w7) := F2.out.at hb7 (by omega)
      have F4b : Hid (Fc w4.heap.size p1 q1 w7) := F4.out.at hb7 (by omega)
      have F5b : Hid (Fc w5.heap.size p1 q1 w7) := F5.out.at hb7 (by omega)
      obtain ⟨k1, k2, k3, k4⟩ := F2b.out
      clear F1 F2 F4 F5 hb7 G6
      go_wp2_with fail
      obtain ⟨W7, hW7⟩ : ∃ W, (w7.setCell ⟨w2.heap.size, 0, none⟩ (.int .i64 n3)).setCell ⟨w2.heap.size, 1, none⟩ (.int .i64 d3) = W := ⟨_, rfl⟩
      have G7' : Below w.heap.size w W7 := by rw [← hW7]; exact bs (bs G7 (by simp; omega) _) (by simp; omega) _
      have t10 : W7.heap.size = w7.heap.size := by rw [← hW7]; simp
      have I1 : Hid (Fc w1.heap.size n1 d1 W7) := hW7 ▸ (F1b.out.beside (by omega) _ _).beside (by omega) _ _
      have I2 : Hid (Fc w2.heap.size n3 d3 W7) := hW7 ▸ F2b.out.set _ _
      have I4 : Hid (Fc w4.heap.size p1 q1 W7) := hW7 ▸ (F4b.out.beside (by omega) _ _).beside (by omega) _ _
      have I5 : Hid (Fc w5.heap.size p1 q1 W7) := hW7 ▸ (F5b.out.beside (by omega) _ _).beside (by omega) _ _
      rw [hW7]
      clear hW7 F1b F2b F4b F5b k1 k2 k3 k4 G7
      refine (far_any B _ _ ts ks W7 (Nat.le_trans hB G7'.size) (H0.out.at hB G7') (H2.out.at hB G7') n4 d4 e4 HF4.out).mono ?_
      rintro e w8 ⟨rfl, hb8⟩
      have t11 : W7.heap.size ≤ w8.heap.size := hb8.size
      have hb8' : Below W7.heap.size W7 (w8.alloc (.cells #[.int .i64 n4, .int .i64 d4] 34)) := bal hb8 _
      go_upto_region 13 with fail
      obtain ⟨W8, hW8⟩ : ∃ W, w8.alloc (.cells #[.int .i64 n4, .int .i64 d4] 34) = W := ⟨_, rfl⟩
      have G8 : Below w.heap.size w W8 := by rw [← hW8]; exact bt G7' hb8'
      have J1 : Hid (Fc w1.heap.size n1 d1 W8) := hW8 ▸ I1.out.at hb8' (by omega)
      have J2 : Hid (Fc w2.heap.size n3 d3 W8) := hW8 ▸ I2.out.at hb8' (by omega)
      have J4 : Hid (Fc w4.heap.size p1 q1 W8) := hW8 ▸ I4.out.at hb8' (by omega)
      have J5 : Hid (Fc w5.heap.size p1 q1 W8) := hW8 ▸ I5.out.at hb8' (by omega)
      have J8 : Hid (Fc w8.heap.size n4 d4 W8) := hW8 ▸ fc_new _ _ _
      have t12 : W8.heap.size = w8.heap.size + 1 := by rw [← hW8]; simp
      rw [hW8]
      clear hW8 hb8 hb8' I1 I2 I4 I5 G7'
      go_cut [134] (fun c wx => (∃ b : Bool, c = .bool b ∧ (b = true → e1 = 0 ∧ e3 = 0)) ∧ W8 = wx)
      case first => as_aux_lemma =>
        by_cases z1 : e1 = 0
        · subst z1
          by_cases z3 : e3 = 0
          · subst z3
            go_wp2
            go_meet
            exact ⟨⟨_, rfl, fun _ => by simp⟩, rfl⟩
          · have z3' : (e3 == 0) = false := by simpa using z3
            go_wp2
            go_meet
            exact ⟨⟨_, rfl, fun h => by cases h⟩, rfl⟩
        · have z1' : (e1 == 0) = false := by simpa using z1
          go_wp2
          go_meet
          exact ⟨⟨_, rfl, fun h => by cases h⟩, rfl⟩
      case rest => as_aux_lemma =>
        obtain ⟨⟨b, rfl, hbz⟩, rfl⟩ := hcut
        go_upto_if 134 with fail
        go_cut [] (fun wx => Below W8.heap.size W8 wx)
        case first => as_aux_lemma =>
          cases b with
          | false =>
            clear hbz
            go_wp2
            go_meet
            exact Below.refl _ _
          | true =>
            obtain ⟨rfl, rfl⟩ := hbz rfl
            obtain ⟨hne6, hmost⟩ := metric_far HF1.out HF3.out HF4.out HT5.out
            have hne6' : (e4 == 6) = false := by simpa using hne6
            have km := fun W => most_any n4 d4 e4 n5 d5 e5 (far_bd HF4.out) (times_bd HT5.out) hmost W
            obtain ⟨x1, x2, _, _⟩ := J1.out
            obtain ⟨x3, x4, _, _⟩ := J2.out
            clear hmost hne6 hbz
            go_wp2_with fail
            refine (refTimes_any n1 d1 n3 d3 n5 d5 e5 HT5.out _).mono ?_
            rintro e w9 ⟨rfl, hb9⟩
            have L8 := J8.out.at (bal hb9 (.cells #[.int .i64 n5, .int .i64 d5] 34)) (by omega)
            obtain ⟨y1, y2, _, _⟩ := L8
            clear x1 x2 x3 x4
            have hs9 := hb9.size
            have ne : ¬ w8.heap.size = w9.heap.size := by omega
            go_wp2_with fail
            refine (km _).mono ?_
            rintro e w10 ⟨rfl, hb10⟩
            clear km
            go_wp2
            go_meet
            exact bt (bal hb9 _) hb10
        case rest => as_aux_lemma =>
          have G10 : Below w.heap.size w wc := bt G8 hcut
          have K4 : Hid (Fc w4.heap.size p1 q1 wc) := J4.out.at hcut (by omega)
          have K5 : Hid (Fc w5.heap.size p1 q1 wc) := J5.out.at hcut (by omega)
          have t13 : w8.heap.size < wc.heap.size := by have := hcut.size; omega
          clear hcut J1 J2 J4 J5 J8 G8 t12
          go_wp2_with fail
          refine (apart_any B _ _ us ks wc (Nat.le_trans hB G10.size) (H1.out.at hB G10) (H2.out.at hB G10) p3 q3 f3 HA3.out).mono ?_
          rintro e w11 ⟨rfl, hb11⟩
          have t14 : wc.heap.size ≤ w11.heap.size := hb11.size
          have G11 : Below w.heap.size w w11 := bt G10 hb11
          have K4b : Hid (Fc w4.heap.size p1 q1 w11) := K4.out.at hb11 (by omega)
          have K5b : Hid (Fc w5.heap.size p1 q1 w11) := K5.out.at hb11 (by omega)
          obtain ⟨k1, k2, k3, k4⟩ := K5b.out
          clear K4 K5 hb11 G10
          go_wp2_with fail
          obtain ⟨W11, hW11⟩ : ∃ W, (w11.setCell ⟨w5.heap.size, 0, none⟩ (.int .i64 p3)).setCell ⟨w5.heap.size, 1, none⟩ (.int .i64 q3) = W := ⟨_, rfl⟩
          have G11' : Below w.heap.size w W11 := by rw [← hW11]; exact bs (bs G11 (by simp; omega) _) (by simp; omega) _
          have t15 : W11.heap.size = w11.heap.size := by rw [← hW11]; simp
          have L4 : Hid (Fc w4.heap.size p1 q1 W11) := hW11 ▸ (K4b.out.beside (by omega) _ _).beside (by omega) _ _
          have L5 : Hid (Fc w5.heap.size p3 q3 W11) := hW11 ▸ K5b.out.set _ _
          rw [hW11]
          clear hW11 K4b K5b k1 k2 k3 k4 G11
          refine (apart_any B _ _ ts ks W11 (Nat.le_trans hB G11'.size) (H0.out.at hB G11') (H2.out.at hB G11') p4 q4 f4 HA4.out).mono ?_
          rintro e w12 ⟨rfl, hb12⟩
          have t16 : W11.heap.size ≤ w12.heap.size := hb12.size
          have hb12' : Below W11.heap.size W11 (w12.alloc (.cells #[.int .i64 p4, .int .i64 q4] 34)) := bal hb12 _
          have G12 : Below w.heap.size w (w12.alloc (.cells #[.int .i64 p4, .int .i64 q4] 34)) := bt G11' hb12'
          have M4 : Hid (Fc w4.heap.size p1 q1 (w12.alloc (.cells #[.int .i64 p4, .int .i64 q4] 34))) := L4.out.at hb12' (by omega)
          have M5 : Hid (Fc w5.heap.size p3 q3 (w12.alloc (.cells #[.int .i64 p4, .int .i64 q4] 34))) := L5.out.at hb12' (by omega)
          have M12 : Hid (Fc w12.heap.size p4 q4 (w12.alloc (.cells #[.int .i64 p4, .int .i64 q4] 34))) := fc_new _ _ _
          clear hb12 hb12' L4 L5 G11'
          by_cases z1 : f1 = 0
          · subst z1
            by_cases z3 : f3 = 0
            · subst z3
              have hmost := metric_apart HA1.out HA3.out HA4.out HT6.out
              have km := fun W => most_any p4 q4 f4 p5 q5 f5 (apart_bd HA4.out) (plus_bd HT6.out) hmost W
              clear hmost
              go_upto_region 20 with fail
              obtain ⟨W12, hW12⟩ : ∃ W, w12.alloc (.cells #[.int .i64 p4, .int .i64 q4] 34) = W := ⟨_, rfl⟩
              rw [hW12] at M4 M5 M12 G12 ⊢
              have t17 : W12.heap.size = w12.heap.size + 1 := by rw [← hW12]; simp
              obtain ⟨x1, x2, _, _⟩ := M4.out
              obtain ⟨x3, x4, _, _⟩ := M5.out
              clear hW12
              go_wp2_with fail
              refine (refPlus_any p1 q1 p3 q3 p5 q5 f5 HT6.out _).mono ?_
              rintro e w13 ⟨rfl, hb13⟩
              have L8 := M12.out.at (bal hb13 (.cells #[.int .i64 p5, .int .i64 q5] 34)) (by omega)
              obtain ⟨y1, y2, _, _⟩ := L8
              have hs13 := hb13.size
              have ne : ¬ w12.heap.size = w13.heap.size := by omega
              clear x1 x2 x3 x4
              go_wp2_with fail
              refine (km _).mono ?_
              rintro e w14 ⟨rfl, hb14⟩
              clear km
              go_wp2
              go_ret
              exact ⟨rfl, bt (bt G12 (bal hb13 _)) hb14⟩
            · have z3' : (f3 == 0) = false := by simpa using z3
              go_wp2
              go_ret
              exact ⟨rfl, G12⟩
          · have z1' : (f1 == 0) = false := by simpa using z1
            go_wp2
            go_ret
            exact ⟨rfl, G12⟩
end Go.Proofs.Ytcglfojbgdlbhaa
