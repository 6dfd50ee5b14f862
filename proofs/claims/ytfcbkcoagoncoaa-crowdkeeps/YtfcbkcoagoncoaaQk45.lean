import Derived.Test.YtfcbkcoagoncoaaQk33
import Derived.Test.YtfcbkcoagoncoaaQk44
namespace Go.Proofs.Ytfcbkcoagoncoaa
open Go.RowKit Go.Proofs.Ytfcbkcoagoncoaa.Ds Go.Proofs.Ytfcbkcoagoncoaa.Crd

theorem RowI.numC {w : World} {g cap B n : Nat} {xs : List Int} (h : RowI w g xs) (hn : n = xs.length) (hc : xs.length ≤ cap) (hl : xs.length ≤ 9223372036854775807) (hB : g < B) : Num w B (.slice (some ⟨g, 0, none⟩) n cap) xs :=
  ⟨_, cap, by rw [hn], hc, hl, fun _ => ⟨g, 0, rfl, hB, fun i x hi => by rw [Nat.zero_add]; exact h.cells i x hi⟩⟩

set_option maxHeartbeats 2000000 in
set_option maxRecDepth 100000 in
theorem crowdKeeps_walk (B : Nat) (u d K : Int) (v : Value) (who other : Int) (ts : List Int) (w : World) (hB : B ≤ w.heap.size) (hx : Num w B v ts) (hlen : ts.length ≤ 17592186044416) :
    Calls Try.prog 5 #[rv u d, .int .i64 K, v, .int .i64 who, .int .i64 other] w fun e w' => e = .returned (.bool true) ∧ Below w.heap.size w w' := by
  have HN : Hid (Num w B v ts) := hx
  obtain ⟨va, vc, rfl, hvc, hvl, _⟩ := hx
  by_cases c1 : who < 0
  · clear HN
    go_enter Try.func5, Try.ntmps5
    go_wp2_with fail
    refine (alive_any _).mono ?_
    rintro e w1 ⟨rfl, hb1⟩
    have G1 := bt (ba _ _) hb1
    go_wp2
    go_ret
    exact ⟨rfl, G1⟩
  by_cases c2 : (ts.length : Int) ≤ who
  · clear HN
    go_enter Try.func5, Try.ntmps5
    go_wp2_with fail
    refine (alive_any _).mono ?_
    rintro e w1 ⟨rfl, hb1⟩
    have G1 := bt (ba _ _) hb1
    go_wp2
    go_ret
    exact ⟨rfl, G1⟩
  obtain ⟨i, rfl⟩ := Int.eq_ofNat_of_zero_le (show 0 ≤ who by omega)
  have hi : i < ts.length := by omega
  obtain ⟨x0, hx0⟩ := get_lt hi
  have HX0 : Hid (ts[i]? = some x0) := hx0
  obtain ⟨l, e1, hl⟩ : ∃ l e1, shuT u d K ts = (l, e1) := ⟨_, _, rfl⟩
  obtain ⟨m, e2, hm⟩ : ∃ m e2, shuT u d K (ts.set i other) = (m, e2) := ⟨_, _, rfl⟩
  have HL : Hid (shuT u d K ts = (l, e1)) := hl
  have HM : Hid (shuT u d K (ts.set i other) = (m, e2)) := hm
  clear hl hm hx0 c1
  go_enter Try.func5, Try.ntmps5
  go_wp2_with fail
  refine (alive_any _).mono ?_
  rintro e w1 ⟨rfl, hb1⟩
  have G1 := bt (ba _ _) hb1
  obtain ⟨hc1, hf1⟩ := bcell hb1
  have r1 : w1.cell? ⟨w.heap.size, 0, none⟩ = some (.int .i64 u) := by rw [hc1 _ _ (by simp)]; simp [go_sem]
  have r2 : w1.cell? ⟨w.heap.size, 1, none⟩ = some (.int .i64 d) := by rw [hc1 _ _ (by simp)]; simp [go_sem]
  have hz1 : w.heap.size < w1.heap.size := by have := hb1.size; simp at this; omega
  clear hc1 hf1 hb1
  have HOW : Hid ((w1.alloc (.cells #[] 3)).ownsRow w1.heap.size 3 1 (.slice (some ⟨w1.heap.size, 0, none⟩) 0 0) 0 (([] : List Int).map (Value.int .i64))) := owns_zero w1 w1.heap.size (Nat.le_refl _)
  have HXW : Hid (Num (w1.alloc (.cells #[] 3)) B (.slice va ts.length vc) ts) := (HN.out.at hB G1).at (by omega) (ba _ _)
  go_wp2_with (at_builtin; refine wpList_app_nums _ rfl _ _ rfl w1.heap.size B 0 (some ⟨w1.heap.size, 0, none⟩) 0 [] ts rfl HOW.out (.slice va ts.length vc) rfl HXW.out (by omega) (by simp) ts.length (by omega) ?_)
  intro a2 c2' w2 hown hgrow hat
  have hb2 : Below w1.heap.size w1 w2 := (ba _ _).grown hgrow (by simp) (by intro k hk; simp [Value.ownBlock] at hk; omega)
  obtain ⟨g, cap, hv2, hcap, hg, hrow⟩ := rowi_of_owns (xs := [] ++ ts) (by simp) hown (owns_some hown (by omega))
  simp only [List.nil_append] at hv2 hcap hrow
  simp only [Value.slice.injEq] at hv2
  obtain ⟨rfl, -, rfl⟩ := hv2
  have HRow : Hid (RowI w2 g ts) := hrow
  have y1 := hrow.cells i x0 HX0.out
  have y2 := hrow.thaw i hi
  have rlt := hrow.lt
  obtain ⟨w3, hw3⟩ : ∃ w3, w2.setCell ⟨g, i, none⟩ (.int .i64 other) = w3 := ⟨_, rfl⟩
  have hb3 : Below w1.heap.size w1 w3 := by rw [← hw3]; exact bs hb2 hg _
  have HR3 : Hid (RowI w3 g (ts.set i other)) := by rw [← hw3]; exact HRow.out.set i other
  have G3 : Below w.heap.size w w3 := bt G1 hb3
  have hsz3 := hb3.size
  have s1 : w3.cell? ⟨w.heap.size, 0, none⟩ = some (.int .i64 u) := (hb3.cell (p := ⟨w.heap.size, 0, none⟩) hz1).trans r1
  have s2 : w3.cell? ⟨w.heap.size, 1, none⟩ = some (.int .i64 d) := (hb3.cell (p := ⟨w.heap.size, 1, none⟩) hz1).trans r2
  have k1 := shuffled_any B u d K (.slice va ts.length vc) ts w3 (by omega) (HN.out.at hB G3) l e1 HL.out
  rw [← hw3] at s1 s2 k1
  have HW3 : Hid (w2.setCell ⟨g, i, none⟩ (.int .i64 other) = w3) := hw3
  clear hown hgrow hat hrow HOW HXW hw3 r1 r2
  go_wp2_with fail
  refine k1.mono ?_
  rw [HW3.out]
  rintro e w4 ⟨v4, us4, rfl, hu4, ho4, hb4⟩
  rw [HW3.out] at s1 s2
  obtain ⟨b4, d4, rfl⟩ := ho4.slice
  have G4 : Below w.heap.size w w4 := bt G3 hb4
  have hz4 := hb4.size
  have t1 : w4.cell? ⟨w.heap.size, 0, none⟩ = some (.int .i64 u) := (hb4.cell (p := ⟨w.heap.size, 0, none⟩) (by show w.heap.size < _; omega)).trans s1
  have t2 : w4.cell? ⟨w.heap.size, 1, none⟩ = some (.int .i64 d) := (hb4.cell (p := ⟨w.heap.size, 1, none⟩) (by show w.heap.size < _; omega)).trans s2
  have HR4 : Hid (RowI w4 g (ts.set i other)) := HR3.out.keep hb4 HR3.out.lt
  have k2 := shuffled_any w4.heap.size u d K (.slice (some ⟨g, 0, none⟩) ts.length c2') (ts.set i other) w4 (Nat.le_refl _) (HR4.out.numC (by simp) (by simpa using hcap) (by simp; omega) HR4.out.lt) m e2 HM.out
  have HU4 : Hid (rd us4 = l) := hu4
  have HO4 : Hid (OwnN w4 w3.heap.size (.slice b4 us4.length d4) us4) := ho4
  clear k1 hu4 ho4 hb4 s1 s2 y1 y2
  go_wp2_with fail
  refine k2.mono ?_
  rintro e w5 ⟨v5, us5, rfl, hu5, ho5, hb5⟩
  obtain ⟨b5, d5, rfl⟩ := ho5.slice
  have G5 : Below w.heap.size w w5 := bt G4 hb5
  have hz5 := hb5.size
  have q1 : w5.cell? ⟨w.heap.size, 0, none⟩ = some (.int .i64 u) := (hb5.cell (p := ⟨w.heap.size, 0, none⟩) (by show w.heap.size < _; omega)).trans t1
  have q2 : w5.cell? ⟨w.heap.size, 1, none⟩ = some (.int .i64 d) := (hb5.cell (p := ⟨w.heap.size, 1, none⟩) (by show w.heap.size < _; omega)).trans t2
  have HP4 : Hid (Parts w5 w5.heap.size (.slice b4 us4.length d4) us4) := own_at HO4.out hb5
  have HP5 : Hid (Parts w5 w5.heap.size (.slice b5 us5.length d5) us5) := ho5.parts
  have HU5 : Hid (rd us5 = m) := hu5
  clear k2 hu5 ho5 hb5 t1 t2 HR4 HR3
  by_cases c3 : e1 = 0
  · subst c3
    by_cases c4 : e2 = 0
    · subst c4
      obtain ⟨x, y, e, hf⟩ : ∃ x y e, farT (rd us4) (rd us5) = (x, y, e) := ⟨_, _, _, rfl⟩
      have kf := far_any w5.heap.size _ _ us4 us5 w5 (Nat.le_refl _) HP4.out HP5.out x y e hf
      obtain ⟨hmain, hd0, hd1, hu0, hu1⟩ := keeps_main (x := x) (y := y) (e := e) HX0.out HL.out HM.out (by rw [← HU4.out, ← HU5.out]; exact hf)
      clear hf HL HM HX0 HN HRow HW3 HO4
      go_wp2_with fail
      refine kf.mono ?_
      rintro z w6 ⟨rfl, hb6⟩
      have G6 : Below w.heap.size w w6 := bt G5 hb6
      have hz6 := hb6.size
      have p1 : w6.cell? ⟨w.heap.size, 0, none⟩ = some (.int .i64 u) := (hb6.cell (p := ⟨w.heap.size, 0, none⟩) (by show w.heap.size < _; omega)).trans q1
      have p2 : w6.cell? ⟨w.heap.size, 1, none⟩ = some (.int .i64 d) := (hb6.cell (p := ⟨w.heap.size, 1, none⟩) (by show w.heap.size < _; omega)).trans q2
      clear kf hb6 q1 q2
      rcases hmain with rfl | ⟨rfl, hle, x0', x1, y0, y1⟩
      · go_wp2
        go_ret
        exact ⟨rfl, bal G6 _⟩
      · have km := refMost_any x y u d x0' x1 y0 y1 hu0 hu1 hd0 hd1 true (by simpa using hle)
        have p3 : (w6.alloc (.cells #[.int .i64 x, .int .i64 y] 23)).cell? ⟨w.heap.size, 0, none⟩ = some (.int .i64 u) := (World.cell?_alloc_lt _ _ _ (by show w.heap.size < _; omega)).trans p1
        have p4 : (w6.alloc (.cells #[.int .i64 x, .int .i64 y] 23)).cell? ⟨w.heap.size, 1, none⟩ = some (.int .i64 d) := (World.cell?_alloc_lt _ _ _ (by show w.heap.size < _; omega)).trans p2
        clear hle
        go_wp2_with fail
        refine (km _).mono ?_
        rintro z w7 ⟨rfl, hb7⟩
        have G7 : Below w.heap.size w w7 := bt (bal G6 _) hb7
        clear km hb7
        go_wp2
        go_ret
        exact ⟨rfl, G7⟩
    · have c5 : (e2 != 0) = true := by simpa using c4
      clear HL HM HX0 HN HRow HW3 HO4
      go_wp2
      go_ret
      exact ⟨rfl, G5⟩
  · have c5 : (e1 != 0) = true := by simpa using c3
    clear HL HM HX0 HN HRow HW3 HO4
    go_wp2
    go_ret
    exact ⟨rfl, G5⟩
end Go.Proofs.Ytfcbkcoagoncoaa
