import Derived.Test.YtcglfojbgdlbhaaPmp
namespace Go.Proofs.Ytcglfojbgdlbhaa
open Go.RowKit Go.Proofs.Ytcglfojbgdlbhaa.Ds

set_option maxHeartbeats 8000000 in
set_option maxRecDepth 100000 in
theorem distPost_walk (B : Nat) (v0 v1 v2 : Value) (ts us : List Tr) (ps : List Pr) (w : World) (hB : B ≤ w.heap.size) (hp : Parts w B v0 ts) (hq : Parts w B v1 us) (hk : Prs w B v2 ps) :
    Calls Try.prog 8 #[v0, v1, v2] w fun e w' => e = .returned (.bool true) ∧ Below w.heap.size w w' := by
  have H0 : Hid (Parts w B v0 ts) := hp
  have H1 : Hid (Parts w B v1 us) := hq
  have H2 : Hid (Prs w B v2 ps) := hk
  obtain ⟨a0, c0, rfl, _⟩ := hp
  obtain ⟨a1, c1, rfl, _⟩ := hq
  obtain ⟨a2, c2, rfl, _⟩ := hk
  obtain ⟨⟨n1, d1, e1⟩, HF1⟩ : ∃ x, Hid (farT (rd ts) (rd us) = x) := ⟨_, rfl⟩
  obtain ⟨⟨p1, q1, f1⟩, HA1⟩ : ∃ x, Hid (apartT (rd ts) (rd us) = x) := ⟨_, rfl⟩
  obtain ⟨⟨la, ea⟩, HM1⟩ : ∃ x, Hid (mapT (rd ts) (pd ps) = x) := ⟨_, rfl⟩
  obtain ⟨⟨lb, eb⟩, HM2⟩ : ∃ x, Hid (mapT (rd us) (pd ps) = x) := ⟨_, rfl⟩
  obtain ⟨⟨n2, d2, e2⟩, HF2⟩ : ∃ x, Hid (farT la lb = x) := ⟨_, rfl⟩
  obtain ⟨⟨p2, q2, f2⟩, HA2⟩ : ∃ x, Hid (apartT la lb = x) := ⟨_, rfl⟩
  go_enter Try.func8, Try.ntmps8
  go_wp2_with fail
  refine (alive_any w).mono ?_
  rintro e w0 ⟨rfl, G0⟩
  go_wp2_with fail
  refine (far_any B _ _ ts us w0 (Nat.le_trans hB G0.size) (H0.out.at hB G0) (H1.out.at hB G0) n1 d1 e1 HF1.out).mono ?_
  rintro e w1 ⟨rfl, hb1⟩
  have G1 : Below w.heap.size w (w1.alloc (.cells #[.int .i64 n1, .int .i64 d1] 34)) := bal (bt G0 hb1) _
  have HC1 : Hid (Fc w1.heap.size n1 d1 (w1.alloc (.cells #[.int .i64 n1, .int .i64 d1] 34))) := fc_new _ _ _
  have t1 : w.heap.size ≤ w1.heap.size := (bt G0 hb1).size
  clear hb1 G0
  by_cases z2 : e1 = 2
  · subst z2
    go_wp2
    go_ret
    exact ⟨rfl, G1⟩
  by_cases z3 : e1 = 3
  · subst z3
    go_wp2
    go_ret
    exact ⟨rfl, G1⟩
  have z2' : (e1 == 2) = false := by simpa using z2
  have z3' : (e1 == 3) = false := by simpa using z3
  clear z2 z3
  go_wp2_with fail
  refine (apart_any B _ _ ts us _ (Nat.le_trans hB G1.size) (H0.out.at hB G1) (H1.out.at hB G1) p1 q1 f1 HA1.out).mono ?_
  rintro e w2 ⟨rfl, hb2⟩
  have t2 : w1.heap.size < w2.heap.size := by have := hb2.size; simp at this; omega
  have HC1b : Hid (Fc w1.heap.size n1 d1 (w2.alloc (.cells #[.int .i64 p1, .int .i64 q1] 34))) := (HC1.out.at hb2 (by simp)).at (ba _ _) (by omega)
  have HC2 : Hid (Fc w2.heap.size p1 q1 (w2.alloc (.cells #[.int .i64 p1, .int .i64 q1] 34))) := fc_new _ _ _
  have G2 : Below w.heap.size w (w2.alloc (.cells #[.int .i64 p1, .int .i64 q1] 34)) := bal (bt G1 hb2) _
  clear hb2 G1 HC1 z2' z3'
  go_wp2_with fail
  refine (pmap_any B _ _ ts ps _ (Nat.le_trans hB G2.size) (H0.out.at hB G2) (H2.out.at hB G2) la ea HM1.out).mono ?_
  rintro e w3 ⟨va, xa, rfl, hxa, hoa, hb3⟩
  obtain ⟨aa, ca, rfl⟩ := hoa.slice
  have HX1 : Hid (rd xa = la ∧ Parts w3 w3.heap.size (.slice aa xa.length ca) xa) := ⟨hxa, hoa.parts⟩
  have t3 : w2.heap.size < w3.heap.size := by have := hb3.size; simp at this; omega
  have HC1c : Hid (Fc w1.heap.size n1 d1 w3) := HC1b.out.at hb3 (by simp; omega)
  have HC2b : Hid (Fc w2.heap.size p1 q1 w3) := HC2.out.at hb3 (by simp)
  have G3 : Below w.heap.size w w3 := bt G2 hb3
  clear hb3 G2 HC1b HC2 hxa hoa
  go_wp2_with fail
  refine (pmap_any B _ _ us ps w3 (Nat.le_trans hB G3.size) (H1.out.at hB G3) (H2.out.at hB G3) lb eb HM2.out).mono ?_
  rintro e w4 ⟨vb, xb, rfl, hxb, hob, hb4⟩
  obtain ⟨ab, cb, rfl⟩ := hob.slice
  have HX2 : Hid (rd xb = lb ∧ Parts w4 w4.heap.size (.slice ab xb.length cb) xb) := ⟨hxb, hob.parts⟩
  have HX1b : Hid (rd xa = la ∧ Parts w4 w4.heap.size (.slice aa xa.length ca) xa) := ⟨HX1.out.1, (HX1.out.2.at (Nat.le_refl _) hb4).mono hb4.size⟩
  have t4 : w3.heap.size ≤ w4.heap.size := hb4.size
  have HC1d : Hid (Fc w1.heap.size n1 d1 w4) := HC1c.out.at hb4 (by omega)
  have HC2c : Hid (Fc w2.heap.size p1 q1 w4) := HC2b.out.at hb4 (by omega)
  have G4 : Below w.heap.size w w4 := bt G3 hb4
  clear hb4 G3 HC1c HC2b hxb hob HX1
  by_cases za : ea = 0
  · subst za
    by_cases zb : eb = 0
    · subst zb
      obtain ⟨hne6, hm1⟩ := post_far HM1.out HM2.out HF1.out HF2.out
      have hm2 := post_apart HM1.out HM2.out HA1.out HA2.out
      have km1 := fun W => most_any n2 d2 e2 n1 d1 e1 (far_bd HF2.out) (far_bd HF1.out) hm1 W
      have km2 := fun W => most_any p2 q2 f2 p1 q1 f1 (apart_bd HA2.out) (apart_bd HA1.out) hm2 W
      have HN : Hid (e1 = 0 → e2 ≠ 6) := hne6
      clear hne6 hm1 hm2
      go_wp2_with fail
      refine (far_any w4.heap.size _ _ xa xb w4 (Nat.le_refl _) HX1b.out.2 HX2.out.2 n2 d2 e2 (by rw [HX1b.out.1, HX2.out.1]; exact HF2.out)).mono ?_
      rintro e w5 ⟨rfl, hb5⟩
      have t5 : w4.heap.size ≤ w5.heap.size := hb5.size
      have hb5' : Below w4.heap.size w4 (w5.alloc (.cells #[.int .i64 n2, .int .i64 d2] 34)) := bal hb5 _
      have G5 : Below w.heap.size w (w5.alloc (.cells #[.int .i64 n2, .int .i64 d2] 34)) := bt G4 hb5'
      have HD1 : Hid (Fc w1.heap.size n1 d1 (w5.alloc (.cells #[.int .i64 n2, .int .i64 d2] 34))) := HC1d.out.at hb5' (by omega)
      have HD2 : Hid (Fc w2.heap.size p1 q1 (w5.alloc (.cells #[.int .i64 n2, .int .i64 d2] 34))) := HC2c.out.at hb5' (by omega)
      have HD5 : Hid (Fc w5.heap.size n2 d2 (w5.alloc (.cells #[.int .i64 n2, .int .i64 d2] 34))) := fc_new _ _ _
      have HX1c : Hid (Parts (w5.alloc (.cells #[.int .i64 n2, .int .i64 d2] 34)) w4.heap.size (.slice aa xa.length ca) xa) := HX1b.out.2.at (Nat.le_refl _) hb5'
      have HX2c : Hid (Parts (w5.alloc (.cells #[.int .i64 n2, .int .i64 d2] 34)) w4.heap.size (.slice ab xb.length cb) xb) := HX2.out.2.at (Nat.le_refl _) hb5'
      clear hb5 hb5' G4 HC1d HC2c
      go_wp2_with fail
      refine (apart_any w4.heap.size _ _ xa xb _ (by simp; omega) HX1c.out HX2c.out p2 q2 f2 (by rw [HX1b.out.1, HX2.out.1]; exact HA2.out)).mono ?_
      rintro e w6 ⟨rfl, hb6⟩
      have t6 : w5.heap.size < w6.heap.size := by have := hb6.size; simp at this; omega
      have hb6' : Below (w5.alloc (.cells #[.int .i64 n2, .int .i64 d2] 34)).heap.size (w5.alloc (.cells #[.int .i64 n2, .int .i64 d2] 34)) (w6.alloc (.cells #[.int .i64 p2, .int .i64 q2] 34)) := bal hb6 _
      obtain ⟨W6, hW6⟩ : ∃ W, w6.alloc (.cells #[.int .i64 p2, .int .i64 q2] 34) = W := ⟨_, rfl⟩
      have E6 : Hid (Fc w6.heap.size p2 q2 W6) := hW6 ▸ fc_new _ _ _
      rw [hW6] at hb6'
      have G6 : Below w.heap.size w W6 := bt G5 hb6'
      have E1 : Hid (Fc w1.heap.size n1 d1 W6) := HD1.out.at hb6' (by simp; omega)
      have E2 : Hid (Fc w2.heap.size p1 q1 W6) := HD2.out.at hb6' (by simp; omega)
      have E5 : Hid (Fc w5.heap.size n2 d2 W6) := HD5.out.at hb6' (by simp)
      have t7 : W6.heap.size = w6.heap.size + 1 := by rw [← hW6]; simp
      clear hb6 hb6' HD1 HD2 HD5 G5 HX1c HX2c HX1b HX2
      obtain ⟨x1, x2, _, _⟩ := E1.out
      obtain ⟨x3, x4, _, _⟩ := E5.out
      by_cases z1 : e1 = 0
      · subst z1
        have hne6 := HN.out rfl
        have hne6' : (e2 == 6) = false := by simpa using hne6
        go_upto_region 13 with fail
        clear hW6
        go_wp2_with fail
        refine (km1 _).mono ?_
        rintro e w7 ⟨rfl, hb7⟩
        obtain ⟨y1, y2, _, _⟩ := E2.out.at hb7 (by omega)
        obtain ⟨y3, y4, _, _⟩ := E6.out.at hb7 (by omega)
        clear km1 x1 x2 x3 x4
        go_wp2_with fail
        refine (km2 _).mono ?_
        rintro e w8 ⟨rfl, hb8⟩
        clear km2
        go_wp2
        go_ret
        exact ⟨rfl, bt (bt G6 hb7) hb8⟩
      · have z1' : (e1 == 0) = false := by simpa using z1
        go_upto_region 13 with fail
        clear hW6
        go_wp2_with fail
        refine (km1 _).mono ?_
        rintro e w7 ⟨rfl, hb7⟩
        obtain ⟨y1, y2, _, _⟩ := E2.out.at hb7 (by omega)
        obtain ⟨y3, y4, _, _⟩ := E6.out.at hb7 (by omega)
        clear km1 x1 x2 x3 x4
        go_wp2_with fail
        refine (km2 _).mono ?_
        rintro e w8 ⟨rfl, hb8⟩
        clear km2
        go_wp2
        go_ret
        exact ⟨rfl, bt (bt G6 hb7) hb8⟩
    · have zb' : (eb == 0) = false := by simpa using zb
      go_wp2
      go_ret
      exact ⟨rfl, G4⟩
  · have za' : (ea == 0) = false := by simpa using za
    go_wp2
    go_ret
    exact ⟨rfl, G4⟩
end Go.Proofs.Ytcglfojbgdlbhaa
