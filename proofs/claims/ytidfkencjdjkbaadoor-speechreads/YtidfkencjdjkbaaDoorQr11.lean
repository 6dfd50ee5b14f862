import Derived.Test.YtidfkencjdjkbaaDoorQr10
/-
  PACKAGE speech: spans, tests.
-/
namespace Go.Proofs.YtidfkencjdjkbaaDoor
open Go.RowKit Sp

theorem Bx.gb {w w' : World} {R b : Nat} {cs : List Value} (h : Bx w b cs) (hg : w.grownBy w' (some R)) (hn : b ≠ R) : Bx w' b cs := fun k v hk => gb_cell (h k v hk) hg hn
abbrev VP : World → Int × Int → Value → Prop := fun _ p v => v = .tuple #[.int .i64 p.1, .int .i64 p.2]
set_option maxHeartbeats 1000000 in
theorem span_any {w : World} {R b P0 : Nat} {ps : List Pc} {m : Value} (h : Rdr w R P0 ps m) (hX : Cx w R b) (r : PR (Int × Int)) (hr : spnP ps = r) : Calls Tryd.prog 80 #[ptR R] w (RdP w R P0 m VP r) := by
  obtain ⟨r1, hr1⟩ : ∃ r1, sgnP ps = r1 := ⟨_, rfl⟩
  have k1 := signed_any h hX r1 hr1
  unfold spnP at hr
  rw [hr1] at hr
  have HRR : Hid _ := hr
  have HX : Hid (Cx w R b) := hX
  clear h hX hr hr1
  go_enter Tryd.func80, Tryd.ntmps80
  go_wp2_with fail
  refine k1.mono ?_
  rintro e w1 ⟨he, hg1⟩
  have HG1 : Hid (w.grownBy w1 (some R)) := hg1
  clear k1 hg1
  cases r1 with
  | error x =>
    obtain ⟨c, a⟩ := x
    obtain rfl : .error (c, a) = r := HRR.out
    obtain rfl : e = .panicked (chn c a) := he
    go_wp2
    exact ⟨rfl, rfl, HG1.out⟩
  | ok x =>
    obtain ⟨a1, q1⟩ := x
    obtain ⟨⟨v, rfl, rfl⟩, h1⟩ := he
    by_cases c1 : hd q1 = sDots
    · have k2 := take_yes h1 sDots (by decide) c1
      have HT : Hid (tk sDots q1 = .ok ((), q1.tail)) := by rw [Hid, tk, if_pos c1]
      clear h1 c1
      go_wp2_with fail
      refine k2.mono ?_
      rintro e w2 ⟨rfl, h2, hg2⟩
      have HG2 : Hid (w.grownBy w2 (some R)) := gb_trans HG1.out hg2
      clear k2 hg2
      obtain ⟨r3, hr3⟩ : ∃ r3, sgnP q1.tail = r3 := ⟨_, rfl⟩
      have k3 := signed_any h2 (HX.out.gb HG2.out) r3 hr3
      have hq := HRR.out
      simp only [HT.out, hr3] at hq
      have HRR2 : Hid _ := hq
      clear hq
      clear h2 hr3
      go_wp2_with fail
      refine k3.mono ?_
      rintro e w3 ⟨he, hg3⟩
      have HG3 : Hid (w.grownBy w3 (some R)) := gb_trans HG2.out hg3
      clear k3 hg3
      cases r3 with
      | error x =>
        obtain ⟨c, a⟩ := x
        obtain rfl : .error (c, a) = r := HRR2.out
        obtain rfl : e = .panicked (chn c a) := he
        go_wp2
        exact ⟨rfl, rfl, HG3.out⟩
      | ok x =>
        obtain ⟨a3, q3⟩ := x
        obtain ⟨⟨v, rfl, rfl⟩, h3⟩ := he
        obtain rfl : .ok ((a1, a3), q3) = r := HRR2.out
        go_wp2
        exact bodyPost_ret (v := .tuple #[.int .i64 a1, .int .i64 a3]) (by simp [results, Tryd.results80, go_sem]) rfl ⟨⟨⟨_, rfl, rfl⟩, h3⟩, HG3.out⟩
    · have k2 := take_no h1 sDots c1
      have HT : Hid (tk sDots q1 = .error (2, hat q1)) := by rw [Hid, tk, if_neg c1]
      obtain rfl : .error (2, hat q1) = r := by have := HRR.out; simp only [HT.out] at this; exact this
      clear h1 c1
      go_wp2_with fail
      refine k2.mono ?_
      rintro e w2 ⟨rfl, rfl⟩
      go_wp2
      exact ⟨rfl, rfl, HG1.out⟩
abbrev tsA (t : Tst) : Value := .agg #[.string (tx t.1), .int .i64 t.2.1, .int .i64 t.2.2]
abbrev VT : World → Tst → Value → Prop := fun _ t v => v = tsA t
theorem dng_ne {x : By} (h : dng x ≠ 0) : x ≠ [] := by rintro rfl; exact h (by decide)
set_option maxHeartbeats 1000000 in
theorem test_any {w : World} {R b P0 : Nat} {ps : List Pc} (h : Rdr w R P0 ps (.map (some b))) (hX : Cx w R b) (r : PR Tst) (hr : tstP ps = r) : Calls Tryd.prog 86 #[ptR R] w (RdP w R P0 (.map (some b)) VT r) := by
  obtain ⟨W0, hW0⟩ : ∃ W0, w.alloc (.cells #[.string ⟨#[]⟩, .int .i64 0, .int .i64 0] 61) = W0 := ⟨_, rfl⟩
  have hb0 : Below w.heap.size w W0 := hW0 ▸ ba _ _
  have HBX : Hid (Bx W0 w.heap.size [.string ⟨#[]⟩, .int .i64 0, .int .i64 0]) := hW0 ▸ Bx.new w [.string ⟨#[]⟩, .int .i64 0, .int .i64 0] 61 rfl
  have HG0 : Hid (w.grownBy W0 (some R)) := gb_below hb0
  have hRl : w.heap.size ≠ R := by have := h.pl; omega
  have hPl : w.heap.size ≠ P0 := by have := h.pl; omega
  obtain ⟨r1, hr1⟩ : ∃ r1, nmP ps = r1 := ⟨_, rfl⟩
  have k1 := rname_any (h.at hb0) (hX.at hb0) r1 hr1
  unfold tstP at hr
  rw [hr1] at hr
  have HRR : Hid _ := hr
  have HX : Hid (Cx w R b) := hX
  clear h hX hr hr1 hb0
  go_enter Tryd.func86, Tryd.ntmps86
  go_wp2_with fail
  clear hW0
  refine k1.mono ?_
  rintro e w1 ⟨he, hg1⟩
  have HG1 : Hid (w.grownBy w1 (some R)) := gb_trans HG0.out hg1
  have HB1 : Hid (Bx w1 w.heap.size [.string ⟨#[]⟩, .int .i64 0, .int .i64 0]) := HBX.out.gb hg1 hRl
  clear k1 hg1 HBX
  cases r1 with
  | error x =>
    obtain ⟨c, a⟩ := x
    obtain rfl : .error (c, a) = r := HRR.out
    obtain rfl : e = .panicked (chn c a) := he
    go_wp2
    exact ⟨rfl, rfl, HG1.out⟩
  | ok x =>
    obtain ⟨a1, q1⟩ := x
    obtain ⟨⟨v, rfl, rfl⟩, h1⟩ := he
    have k2 := next_any h1 _ rfl
    have k3 := doing_any (HX.out.gb HG1.out).g (hd q1)
    go_wp2_with fail
    refine k2.mono ?_
    rintro e w2 ⟨rfl, rfl⟩
    go_wp2_with fail
    refine k3.mono ?_
    rintro e w3 ⟨rfl, rfl⟩
    clear k2 k3
    by_cases c1 : dng (hd q1) = 0
    · obtain rfl : .error (2, hat q1) = r := by have := HRR.out; simp only [if_pos c1] at this; exact this
      have k4 := pmust_no h1 2
      have c2 : decide (0 < dng (hd q1)) = false := by simp [c1]
      have c3 : ¬ (0 : Int) < (dng (hd q1) : Int) := by omega
      go_wp2_with fail
      refine k4.mono ?_
      rintro e w4 ⟨rfl, rfl⟩
      go_wp2
      exact ⟨rfl, rfl, HG1.out⟩
    · have k4 := pmust_ok h1 2
      obtain ⟨dn, hdn⟩ : ∃ dn, dng (hd q1) = dn := ⟨_, rfl⟩
      have hq := HRR.out
      simp only [if_neg c1] at hq
      rw [hdn] at hq
      have HRR2 : Hid _ := hq
      clear hq
      have HNE : Hid (hd q1 ≠ []) := dng_ne c1
      rw [hdn] at c1
      have c2 : 0 < dn := by omega
      have c3 : (0 : Int) < (dn : Int) := by omega
      have c4 : decide (0 < dn) = true := by simpa using c2
      have H1 : Hid (Rdr w3 R P0 q1 (.map (some b))) := h1
      simp only [hdn]
      clear hdn c1 h1
      go_wp2_with fail
      refine k4.mono ?_
      rintro e w4 ⟨rfl, rfl⟩
      clear k4
      have k5 := step_any H1.out HNE.out
      go_wp2_with fail
      refine k5.mono ?_
      rintro e w5 ⟨rfl, h5, hg5⟩
      have HG5 : Hid (w.grownBy w5 (some R)) := gb_trans HG1.out hg5
      have HB5 : Hid (Bx w5 w.heap.size [.string ⟨#[]⟩, .int .i64 0, .int .i64 0]) := HB1.out.gb hg5 hRl
      obtain ⟨r6, hr6⟩ : ∃ r6, sgnP q1.tail = r6 := ⟨_, rfl⟩
      have k6 := signed_any h5 (HX.out.gb HG5.out) r6 hr6
      have hq := HRR2.out
      rw [hr6] at hq
      have HRR3 : Hid _ := hq
      clear hq
      clear k5 hg5 h5 hr6 HB1
      go_wp2_with fail
      refine k6.mono ?_
      rintro e w6 ⟨he, hg6⟩
      have HG6 : Hid (w.grownBy w6 (some R)) := gb_trans HG5.out hg6
      have HB6 : Hid (Bx w6 w.heap.size [.string ⟨#[]⟩, .int .i64 0, .int .i64 0]) := HB5.out.gb hg6 hRl
      clear k6 hg6 HB5
      cases r6 with
      | error x =>
        obtain ⟨c, a⟩ := x
        obtain rfl : .error (c, a) = r := HRR3.out
        obtain rfl : e = .panicked (chn c a) := he
        go_wp2
        exact ⟨rfl, rfl, HG6.out⟩
      | ok x =>
        obtain ⟨a6, q6⟩ := x
        obtain ⟨⟨v, rfl, rfl⟩, h6⟩ := he
        obtain rfl : .ok ((a1, (dn : Int), a6), q6) = r := HRR3.out
        have z0 := (HB6.out 0 _ rfl).c
        have z1 := (HB6.out 1 _ rfl).c
        have z2 := (HB6.out 2 _ rfl).c
        have y0 := (HB6.out 0 _ rfl).f
        have y1 := (HB6.out 1 _ rfl).f
        have y2 := (HB6.out 2 _ rfl).f
        have H6 : Hid (Rdr w6 R P0 q6 (.map (some b))) := h6
        obtain ⟨W7, hW7⟩ : ∃ W7, ((w6.setCell ⟨w.heap.size, 0, none⟩ (.string (tx a1))).setCell ⟨w.heap.size, 1, none⟩ (.int .i64 (dn : Int))).setCell ⟨w.heap.size, 2, none⟩ (.int .i64 a6) = W7 := ⟨_, rfl⟩
        have HB7 : Hid (Bx W7 w.heap.size [.string (tx a1), .int .i64 (dn : Int), .int .i64 a6]) := hW7 ▸ ((HB6.out.set (i := 0) (by simp) _).set (i := 1) (by simp) _).set (i := 2) (by simp) _
        have HR7 : Hid (Rdr W7 R P0 q6 (.map (some b))) := hW7 ▸ ((H6.out.put hRl hPl 0 _).put hRl hPl 1 _).put hRl hPl 2 _
        have HG7 : Hid (w.grownBy W7 (some R)) := hW7 ▸ gb_new (gb_new (gb_new HG6.out (p := ⟨w.heap.size, 0, none⟩) (Nat.le_refl _) _) (p := ⟨w.heap.size, 1, none⟩) (Nat.le_refl _) _) (p := ⟨w.heap.size, 2, none⟩) (Nat.le_refl _) _
        clear h6
        go_wp2
        have x0 := (HB7.out 0 _ rfl).c
        have x1 := (HB7.out 1 _ rfl).c
        have x2 := (HB7.out 2 _ rfl).c
        exact bodyPost_ret (v := tsA (a1, (dn : Int), a6)) (by simp [results, Tryd.results86, go_sem, x0, x1, x2]) rfl ⟨⟨⟨_, rfl, rfl⟩, HR7.out⟩, HG7.out⟩
end Go.Proofs.YtidfkencjdjkbaaDoor
