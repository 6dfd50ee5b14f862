import Derived.Test.YtcglfojbgdlbhaaRfm
namespace Go.Proofs.Ytcglfojbgdlbhaa
open Go.RowKit Go.Proofs.Ytcglfojbgdlbhaa.Ds

set_option maxHeartbeats 4000000 in
set_option maxRecDepth 100000 in
theorem distMakes_walk (B : Nat) (v0 v1 v2 : Value) (place : Int) (ts0 ts1 : List Tr) (xs : List Int) (w : World) (hB : B ≤ w.heap.size) (hp0 : Parts w B v0 ts0) (hp1 : Parts w B v1 ts1) (hx : Ints w B B v2 xs) :
    Calls Try.prog 3 #[v0, v1, v2, .int .i64 place] w fun e w' => e = .returned (.bool true) ∧ Below w.heap.size w w' := by
  have H0 : Hid (Parts w B v0 ts0) := hp0
  have H1 : Hid (Parts w B v1 ts1) := hp1
  have H2 : Hid (Ints w B B v2 xs) := hx
  obtain ⟨a0, c0, rfl, _⟩ := hp0
  obtain ⟨a1, c1, rfl, _⟩ := hp1
  obtain ⟨a2, c2, rfl, _⟩ := hx
  obtain ⟨⟨l0, e0⟩, HM0⟩ : ∃ x, Hid (makeT (rd ts0) = x) := ⟨_, rfl⟩
  obtain ⟨e1, HW1⟩ : ∃ x, Hid ((ownT (rd ts1)).2 = x) := ⟨_, rfl⟩
  obtain ⟨⟨l2, e2⟩, HM2⟩ : ∃ x, Hid (makeT [(xs, 1)] = x) := ⟨_, rfl⟩
  obtain ⟨⟨n3, m3, e3⟩, HC3⟩ : ∃ x, Hid (chanceT (rd ts1) xs = x) := ⟨_, rfl⟩
  obtain ⟨⟨n4, m4, e4⟩, HE4⟩ : ∃ x, Hid (meanT (rd ts1) place = x) := ⟨_, rfl⟩
  go_enter Try.func3, Try.ntmps3
  go_wp2_with fail
  refine (make_any B _ ts0 w hB H0.out l0 e0 HM0.out).mono ?_
  rintro e w1 ⟨v5, us1, rfl, hr1, ho1, hb1⟩
  obtain ⟨b1, d1, rfl⟩ := ho1.slice
  have HO1 : Hid (OwnN w1 w.heap.size (.slice b1 us1.length d1) us1) := ho1
  have HR1 : Hid (rd us1 = l0) := hr1
  clear ho1 hr1
  go_wp2_with fail
  refine (makeR_any B _ ts0 w1 (Nat.le_trans hB hb1.size) (H0.out.at hB hb1) l0 e0 HM0.out).mono ?_
  rintro e w2 ⟨v6, us2, rfl, hr2, ho2, hb2⟩
  obtain ⟨b2, d2, rfl⟩ := ho2.slice
  have HO2 : Hid (OwnN w2 w1.heap.size (.slice b2 us2.length d2) us2) := ho2
  have HR2 : Hid (rd us2 = l0) := hr2
  have G2 : Below w.heap.size w w2 := bt hb1 hb2
  clear ho2 hr2
  go_wp2_with fail
  refine (sameR_any w2.heap.size _ _ us1 us2 w2 (Nat.le_refl _) (HO1.out.keep hb2).parts HO2.out.parts true (decide_eq_true (by rw [HR1.out, HR2.out]))).mono ?_
  rintro e w3 ⟨rfl, hb3⟩
  have G3 : Below w.heap.size w w3 := bt G2 hb3
  clear hb1 hb2 hb3 G2
  go_wp2_with fail
  refine (wrong_any B _ ts1 w3 (Nat.le_trans hB G3.size) (H1.out.at hB G3) e1 HW1.out).mono ?_
  rintro e w4 ⟨rfl, hb4⟩
  have G4 : Below w.heap.size w w4 := bt G3 hb4
  clear hb4 G3
  go_wp2_with fail
  refine (wrongR_any B _ ts1 w4 (Nat.le_trans hB G4.size) (H1.out.at hB G4) e1 HW1.out).mono ?_
  rintro e w5 ⟨rfl, hb5⟩
  have G5 : Below w.heap.size w w5 := bt G4 hb5
  clear hb5 G4
  go_wp2_with fail
  refine (sure_any B B _ xs w5 (Nat.le_trans hB G5.size) (H2.out.at hB G5) l2 e2 HM2.out).mono ?_
  rintro e w6 ⟨v7, us3, rfl, hr3, ho3, hb6⟩
  obtain ⟨b3, d3, rfl⟩ := ho3.slice
  have HO3 : Hid (OwnN w6 w5.heap.size (.slice b3 us3.length d3) us3) := ho3
  have HR3 : Hid (rd us3 = l2) := hr3
  have G6 : Below w.heap.size w w6 := bt G5 hb6
  clear ho3 hr3 hb6 G5
  go_wp2_with fail
  refine (makeR_any (w6.heap.size + 1) _ _ _ (by simp) (parts_one w6 B B _ xs 1 (Nat.le_trans hB G6.size) (H2.out.at hB G6)) l2 e2 HM2.out).mono ?_
  rintro e w7 ⟨v8, us4, rfl, hr4, ho4, hb7⟩
  obtain ⟨b4, d4, rfl⟩ := ho4.slice
  have HR4 : Hid (rd us4 = l2) := hr4
  have hb7' : Below w6.heap.size w6 w7 := bt (ba _ _) hb7
  have HO4 : Hid (Parts w7 w7.heap.size (.slice b4 us4.length d4) us4) := ho4.parts
  have G7 : Below w.heap.size w w7 := bt G6 hb7'
  clear ho4 hr4 hb7 G6
  go_wp2_with fail
  refine (sameR_any w7.heap.size _ _ us3 us4 w7 (Nat.le_refl _) (HO3.out.keep hb7').parts HO4.out true (decide_eq_true (by rw [HR3.out, HR4.out]))).mono ?_
  rintro e w8 ⟨rfl, hb8⟩
  have G8 : Below w.heap.size w w8 := bt G7 hb8
  clear hb7' hb8 G7
  go_wp2_with fail
  refine (chance_any B B _ _ ts1 xs w8 (Nat.le_trans hB G8.size) (H1.out.at hB G8) (H2.out.at hB G8) n3 m3 e3 HC3.out).mono ?_
  rintro e w9 ⟨rfl, hb9⟩
  have G9 : Below w.heap.size w w9 := bt G8 hb9
  clear hb9 G8
  go_wp2_with fail
  have G9' : Below w.heap.size w (w9.alloc (.cells #[.int .i64 n3, .int .i64 m3] 34)) := bal G9 _
  have s9 := G9'.size
  refine (chanceR_any B B _ _ ts1 xs _ (Nat.le_trans hB s9) (H1.out.at hB G9') (H2.out.at hB G9') n3 m3 e3 HC3.out).mono ?_
  rintro e w10 ⟨rfl, hb10⟩
  obtain ⟨hc, hf⟩ := bcell hb10
  have k1 : w10.cell? ⟨w9.heap.size, 0, none⟩ = some (.int .i64 n3) := by rw [hc _ _ (by simp)]; simp [go_sem]
  have k2 : w10.cell? ⟨w9.heap.size, 1, none⟩ = some (.int .i64 m3) := by rw [hc _ _ (by simp)]; simp [go_sem]
  have G10 : Below w.heap.size w w10 := bt G9' hb10
  have s10 : w9.heap.size < w10.heap.size := by have := hb10.size; simp at this; omega
  clear hb10 hc hf G9 G9' s9
  go_wp2_with fail
  have G10' : Below w.heap.size w (w10.alloc (.cells #[.int .i64 n3, .int .i64 m3] 34)) := bal G10 _
  refine (mean_any B _ place ts1 _ (Nat.le_trans hB G10'.size) (H1.out.at hB G10') n4 m4 e4 HE4.out).mono ?_
  rintro e w11 ⟨rfl, hb11⟩
  have G11 : Below w.heap.size w w11 := bt G10' hb11
  clear hb11 G10 G10' k1 k2 s10
  go_wp2_with fail
  refine (meanR_any B _ place ts1 _ (Nat.le_trans hB G11.size) (H1.out.at hB G11) n4 m4 e4 HE4.out).mono ?_
  rintro e w12 ⟨rfl, hb12⟩
  have G12 : Below w.heap.size w w12 := bt G11 hb12
  clear hb12 G11
  go_wp2
  go_ret
  exact ⟨rfl, G12⟩
end Go.Proofs.Ytcglfojbgdlbhaa
