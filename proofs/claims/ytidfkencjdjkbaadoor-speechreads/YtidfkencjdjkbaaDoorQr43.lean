import Derived.Test.YtidfkencjdjkbaaDoorQr27
import Derived.Test.YtidfkencjdjkbaaDoorQr42
/-
  The document's own answer, chapter 15: Read.
-/
namespace Go.Proofs.YtidfkencjdjkbaaDoor
open Go.RowKit Sp

theorem SS.dead3 {w : World} {R P0 : Nat} {e : Int × Nat} (h : SS w R P0 (.error e)) : w.cell? ⟨R, 3, none⟩ = some (.int .i64 (e.2 : Int)) := by
  obtain ⟨c, i, L, er, at', h1, h2, h3, h4, h5, h6, h7, h8, rfl, rfl, h9⟩ := h
  exact (h1 3 _ rfl).c
theorem ss_new {w : World} {R P0 c lo : Nat} {ps : List Pc} (h : PcA w lo P0 c ps) (hb : Bx w R [.slice (some ⟨P0, 0, none⟩) ps.length c, .int .i64 0, .int .i64 0, .int .i64 0]) (hR : P0 ≠ R) (hp : Pok ps) (hl : ps.length ≤ 65537) : SS w R P0 (.ok ps) :=
  ⟨c, 0, ps, 0, 0, hb, h.2.2.2, hR, h.2.1, h.2.2.1, by omega, List.length_pos_iff.2 hp.1.ne, hp, rfl, rfl, List.drop_zero⟩
/-- all levels -/
theorem ask_all : QS 19 1 (qusK 64) := by
  have h := (levels_of (fun k lv e hk h2 w R P0 ps r hs hx hr => thing_join ⟨by omega, by omega⟩ h2 hs hx hr) 64 (by omega)).2
  have e : (65 : Int) - ((64 : Nat) : Int) = 1 := by decide
  rw [e] at h
  exact h
/-- what the reference's Read answers -/
def RrP (t : By) (w : World) (e : Ending) (w' : World) : Prop :=
  (match readT t with | .ok a => ∃ cs, e = .returned (.tuple #[.agg cs.toArray, .agg #[.int .i64 0, .int .i64 0]]) ∧ QN (fun g => w.heap.size ≤ g) w' a cs | .error (c, x) => e = .returned (.tuple #[.agg #[.int .i64 0, .string ⟨#[]⟩, .int .i64 0, .int .i64 0, .slice none 0 0, .slice none 0 0], .agg #[.int .i64 c, .int .i64 (x : Int)]])) ∧ Below w.heap.size w w'
/-- two boxes are written, in either order -/
theorem two_boxes {w W : World} {A F : Nat} {o1 o2 : List Value} (hA : Bx W A o1) (h1 : o1.length = 6) (hF : Bx W F o2) (h2 : o2.length = 2) (hn : A ≠ F) (hb : Below w.heap.size w W) (hwA : w.heap.size ≤ A) (hwF : w.heap.size ≤ F) (a c d e f g x y : Value) :
    (Bx (((set6 W A a c d e f g).setCell ⟨F, 0, none⟩ x).setCell ⟨F, 1, none⟩ y) A [a, c, d, e, f, g] ∧ Bx (((set6 W A a c d e f g).setCell ⟨F, 0, none⟩ x).setCell ⟨F, 1, none⟩ y) F [x, y] ∧ Below w.heap.size w (((set6 W A a c d e f g).setCell ⟨F, 0, none⟩ x).setCell ⟨F, 1, none⟩ y)) ∧
    (Bx (set6 ((W.setCell ⟨F, 0, none⟩ x).setCell ⟨F, 1, none⟩ y) A a c d e f g) A [a, c, d, e, f, g] ∧ Bx (set6 ((W.setCell ⟨F, 0, none⟩ x).setCell ⟨F, 1, none⟩ y) A a c d e f g) F [x, y] ∧ Below w.heap.size w (set6 ((W.setCell ⟨F, 0, none⟩ x).setCell ⟨F, 1, none⟩ y) A a c d e f g)) := by
  match o1, h1, o2, h2, hA, hF with
  | [a0, a1, a2, a3, a4, a5], _, [b0, b1], _, hA, hF =>
    have six : ∀ V : World, Below w.heap.size w V → Below w.heap.size w (set6 V A a c d e f g) := fun V h => bs (bs (bs (bs (bs (bs h (p := ⟨A, 0, none⟩) hwA _) (p := ⟨A, 1, none⟩) hwA _) (p := ⟨A, 2, none⟩) hwA _) (p := ⟨A, 3, none⟩) hwA _) (p := ⟨A, 4, none⟩) hwA _) (p := ⟨A, 5, none⟩) hwA _
    have two : ∀ V : World, Below w.heap.size w V → Below w.heap.size w ((V.setCell ⟨F, 0, none⟩ x).setCell ⟨F, 1, none⟩ y) := fun V h => bs (bs h (p := ⟨F, 0, none⟩) hwF _) (p := ⟨F, 1, none⟩) hwF _
    have six2 : ∀ V : World, Bx V F [b0, b1] → Bx (set6 V A a c d e f g) F [b0, b1] := fun V h => h.sixo hn _ _ _ _ _ _
    refine ⟨⟨((set6_bx hA _ _ _ _ _ _).oth (Ne.symm hn) _).oth (Ne.symm hn) _, ((six2 W hF).set (i := 0) (by simp) _).set (i := 1) (by simp) _, two _ (six _ hb)⟩, ⟨set6_bx ((hA.oth (Ne.symm hn) _).oth (Ne.symm hn) _) _ _ _ _ _ _, ?_, six _ (two _ hb)⟩⟩
    exact Bx.sixo ((hF.set (i := 0) (by simp) _).set (i := 1) (by simp) _) hn _ _ _ _ _ _
set_option maxHeartbeats 4000000 in
set_option maxRecDepth 100000 in
theorem rread_any (t : By) (htl : t.length ≤ 9223372036854775807) (w : World) : Calls Tryd.prog 6 #[.string (tx t)] w (RrP t w) := by
  obtain ⟨r, hr⟩ : ∃ r, readT t = r := ⟨_, rfl⟩
  have HRR : Hid (readT t = r) := hr
  have hsz : (tx t).size = t.length := by show t.toArray.size = _; simp
  obtain ⟨W0, hW0⟩ : ∃ W0, (w.alloc (.cells #[.int .i64 0, .string ⟨#[]⟩, .int .i64 0, .int .i64 0, .slice none 0 0, .slice none 0 0] 25)).alloc (.cells #[.int .i64 0, .int .i64 0] 28) = W0 := ⟨_, rfl⟩
  have HBW : Hid (Below w.heap.size w W0) := hW0 ▸ bal (ba _ _) _
  have HA0 : Hid (Bx W0 w.heap.size z6) := hW0 ▸ (Bx.new w z6 25 rfl).at (ba _ _)
  have HF0 : Hid (Bx W0 (w.heap.size + 1) f0) := hW0 ▸ Bx.new (w.alloc (.cells #[.int .i64 0, .string ⟨#[]⟩, .int .i64 0, .int .i64 0, .slice none 0 0, .slice none 0 0] 25)) f0 28 (by simp)
  have hwl : w.heap.size + 1 < W0.heap.size := (HF0.out 0 _ rfl).lt
  unfold readT at hr
  by_cases c1 : 65536 < t.length
  · rw [if_pos c1] at hr
    subst hr
    have d1 : (65536 : Int) < (t.length : Int) := by omega
    have d2 : decide ((65536 : Int) < (t.length : Int)) = true := by simpa using d1
    have z0 := (HA0.out 0 _ rfl).c
    have z1 := (HA0.out 1 _ rfl).c
    have z2 := (HA0.out 2 _ rfl).c
    have z3 := (HA0.out 3 _ rfl).c
    have z4 := (HA0.out 4 _ rfl).c
    have z5 := (HA0.out 5 _ rfl).c
    have y0 := (HA0.out 0 _ rfl).f
    have y1 := (HA0.out 1 _ rfl).f
    have y2 := (HA0.out 2 _ rfl).f
    have y3 := (HA0.out 3 _ rfl).f
    have y4 := (HA0.out 4 _ rfl).f
    have y5 := (HA0.out 5 _ rfl).f
    have p0 := (HF0.out 0 _ rfl).c
    have p1 := (HF0.out 1 _ rfl).c
    have q0 := (HF0.out 0 _ rfl).f
    have q1 := (HF0.out 1 _ rfl).f
    obtain ⟨hx, -⟩ := two_boxes HA0.out rfl HF0.out rfl (by omega) HBW.out (Nat.le_refl _) (by omega) (.int .i64 0) (.string ⟨#[]⟩) (.int .i64 0) (.int .i64 0) (.slice none 0 0) (.slice none 0 0) (.int .i64 4) (.int .i64 0)
    obtain ⟨W7, hW7⟩ : ∃ W7, ((set6 W0 w.heap.size (.int .i64 0) (.string ⟨#[]⟩) (.int .i64 0) (.int .i64 0) (.slice none 0 0) (.slice none 0 0)).setCell ⟨w.heap.size + 1, 0, none⟩ (.int .i64 4)).setCell ⟨w.heap.size + 1, 1, none⟩ (.int .i64 0) = W7 := ⟨_, rfl⟩
    rw [hW7] at hx
    have HX : Hid _ := hx
    clear hx
    unfold set6 at hW7
    go_enter Tryd.func6, Tryd.ntmps6
    go_wp2
    clear hW7 hW0
    have HX0 : Hid (Bx W7 w.heap.size _) := HX.out.1
    have HX1 : Hid (Bx W7 (w.heap.size + 1) _) := HX.out.2.1
    have x0 := (HX0.out 0 _ rfl).c
    have x1 := (HX0.out 1 _ rfl).c
    have x2 := (HX0.out 2 _ rfl).c
    have x3 := (HX0.out 3 _ rfl).c
    have x4 := (HX0.out 4 _ rfl).c
    have x5 := (HX0.out 5 _ rfl).c
    have f0 := (HX1.out 0 _ rfl).c
    have f1 := (HX1.out 1 _ rfl).c
    exact bodyPost_ret (v := .tuple #[.agg #[.int .i64 0, .string ⟨#[]⟩, .int .i64 0, .int .i64 0, .slice none 0 0, .slice none 0 0], .agg #[.int .i64 4, .int .i64 0]]) (by simp [results, Tryd.results6, go_sem, x0, x1, x2, x3, x4, x5, f0, f1]) rfl ⟨by rw [HRR.out]; rfl, HX.out.2.2⟩
  · rw [if_neg c1] at hr
    have d1 : ¬ (65536 : Int) < (t.length : Int) := by omega
    have d2 : decide ((65536 : Int) < (t.length : Int)) = false := by simpa using d1
    have d3 : t.length ≤ 65536 := by omega
    have kp := pieces_any t d3 W0
    obtain ⟨rc, hrc⟩ : ∃ rc, cutT t 0 = rc := ⟨_, rfl⟩
    rw [hrc] at hr
    have HRC : Hid (cutT t 0 = rc) := hrc
    have HR1 : Hid _ := hr
    clear hr hrc
    go_enter Tryd.func6, Tryd.ntmps6
    go_wp2_with fail
    clear hW0
    refine kp.mono ?_
    rintro e w2 ⟨he, hb2⟩
    have HB2 : Hid (Below w.heap.size w w2) := bt HBW.out hb2
    have HA2 : Hid (Bx w2 w.heap.size z6) := HA0.out.at hb2
    have HF2 : Hid (Bx w2 (w.heap.size + 1) f0) := HF0.out.at hb2
    have hz2 := hb2.size
    clear kp hb2 HA0 HF0
    rw [HRC.out] at he
    cases rc with
    | error x =>
      obtain rfl : .error (2, x) = r := HR1.out
      subst he
      obtain ⟨W3, hW3⟩ : ∃ W3, w2.alloc (.cells #[.int .i64 2, .int .i64 (x : Int)] 28) = W3 := ⟨_, rfl⟩
      have hb3 : Below w2.heap.size w2 W3 := hW3 ▸ ba _ _
      have HG3 : Hid (Bx W3 w2.heap.size [.int .i64 2, .int .i64 (x : Int)]) := hW3 ▸ Bx.new w2 [.int .i64 2, .int .i64 (x : Int)] 28 rfl
      have HA3 : Hid (Bx W3 w.heap.size z6) := HA2.out.at hb3
      have HF3 : Hid (Bx W3 (w.heap.size + 1) f0) := HF2.out.at hb3
      have HB3 : Hid (Below w.heap.size w W3) := bt HB2.out hb3
      clear hb3 HA2 HF2
      have g0 := (HG3.out 0 _ rfl).c
      have g1 := (HG3.out 1 _ rfl).c
      go_wp2_with fail
      clear hW3
      have z0 := (HA3.out 0 _ rfl).c
      have z1 := (HA3.out 1 _ rfl).c
      have z2 := (HA3.out 2 _ rfl).c
      have z3 := (HA3.out 3 _ rfl).c
      have z4 := (HA3.out 4 _ rfl).c
      have z5 := (HA3.out 5 _ rfl).c
      have y0 := (HA3.out 0 _ rfl).f
      have y1 := (HA3.out 1 _ rfl).f
      have y2 := (HA3.out 2 _ rfl).f
      have y3 := (HA3.out 3 _ rfl).f
      have y4 := (HA3.out 4 _ rfl).f
      have y5 := (HA3.out 5 _ rfl).f
      have p0 := (HF3.out 0 _ rfl).c
      have p1 := (HF3.out 1 _ rfl).c
      have q0 := (HF3.out 0 _ rfl).f
      have q1 := (HF3.out 1 _ rfl).f
      obtain ⟨hx1, -⟩ := two_boxes HA3.out rfl HF3.out rfl (by omega) HB3.out (Nat.le_refl _) (by omega) (.int .i64 0) (.string ⟨#[]⟩) (.int .i64 0) (.int .i64 0) (.slice none 0 0) (.slice none 0 0) (.int .i64 2) (.int .i64 (x : Int))
      obtain ⟨W7, hW7⟩ : ∃ W7, ((set6 W3 w.heap.size (.int .i64 0) (.string ⟨#[]⟩) (.int .i64 0) (.int .i64 0) (.slice none 0 0) (.slice none 0 0)).setCell ⟨w.heap.size + 1, 0, none⟩ (.int .i64 2)).setCell ⟨w.heap.size + 1, 1, none⟩ (.int .i64 (x : Int)) = W7 := ⟨_, rfl⟩
      rw [hW7] at hx1
      have HX : Hid _ := hx1
      clear hx1
      unfold set6 at hW7
      go_region
      try rw [hW7]
      go_wp2
      clear hW7
      have HX0 : Hid (Bx W7 w.heap.size _) := HX.out.1
      have HX1 : Hid (Bx W7 (w.heap.size + 1) _) := HX.out.2.1
      have x0 := (HX0.out 0 _ rfl).c
      have x1 := (HX0.out 1 _ rfl).c
      have x2 := (HX0.out 2 _ rfl).c
      have x3 := (HX0.out 3 _ rfl).c
      have x4 := (HX0.out 4 _ rfl).c
      have x5 := (HX0.out 5 _ rfl).c
      have f0 := (HX1.out 0 _ rfl).c
      have f1 := (HX1.out 1 _ rfl).c
      exact bodyPost_ret (v := .tuple #[.agg #[.int .i64 0, .string ⟨#[]⟩, .int .i64 0, .int .i64 0, .slice none 0 0, .slice none 0 0], .agg #[.int .i64 2, .int .i64 (x : Int)]]) (by simp [results, Tryd.results6, go_sem, x0, x1, x2, x3, x4, x5, f0, f1]) rfl ⟨by rw [HRR.out], HX.out.2.2.drew⟩
    | ok ps =>
      obtain ⟨P0, pc, rfl, hpa⟩ := he
      obtain ⟨hfin, hall, hplen⟩ := cut_good t.length t 0 ps (Nat.le_refl _) HRC.out
      have HPA2 : Hid (PcA w2 W0.heap.size P0 pc ps) := hpa
      have HPK : Hid (Pok ps) := ⟨hfin, fun p hp => ⟨(hall p hp).1, by have := (hall p hp).2.1; omega⟩⟩
      clear hpa hfin hall
      go_wp2_with fail
      obtain ⟨W3, hW3⟩ : ∃ W3, w2.alloc (.cells #[.int .i64 0, .int .i64 0] 28) = W3 := ⟨_, rfl⟩
      have hb3 : Below w2.heap.size w2 W3 := hW3 ▸ ba _ _
      have HG3 : Hid (Bx W3 w2.heap.size [.int .i64 0, .int .i64 0]) := hW3 ▸ Bx.new w2 [.int .i64 0, .int .i64 0] 28 rfl
      obtain ⟨W4, hW4⟩ : ∃ W4, W3.alloc (.cells #[.slice (some ⟨P0, 0, none⟩) ps.length pc, .int .i64 0, .int .i64 0, .int .i64 0] 56) = W4 := ⟨_, rfl⟩
      have hb4 : Below W3.heap.size W3 W4 := hW4 ▸ ba _ _
      have HR4 : Hid (Bx W4 W3.heap.size [.slice (some ⟨P0, 0, none⟩) ps.length pc, .int .i64 0, .int .i64 0, .int .i64 0]) := hW4 ▸ Bx.new W3 [.slice (some ⟨P0, 0, none⟩) ps.length pc, .int .i64 0, .int .i64 0, .int .i64 0] 56 rfl
      obtain ⟨R, hR0⟩ : ∃ R, w2.heap.size + 1 = R := ⟨_, rfl⟩
      have hR : W3.heap.size = R := by rw [← hR0, ← hW3]; simp
      rw [hW3, hW4, hR0]
      have hPR : P0 < W3.heap.size := Nat.lt_of_lt_of_le HPA2.out.2.1 hb3.size
      have hz3 := hb3.size
      have HS4 : Hid (SS W4 R P0 (.ok ps)) := ss_new ((HPA2.out.at hb3).at hb4) (hR ▸ HR4.out) (by omega) HPK.out (by omega)
      have HA4 : Hid (Bx W4 w.heap.size z6) := (HA2.out.at hb3).at hb4
      have HF4 : Hid (Bx W4 (w.heap.size + 1) f0) := (HF2.out.at hb3).at hb4
      have HB4 : Hid (Below w.heap.size w W4) := bt (bt HB2.out hb3) hb4
      have hRW : R < W4.heap.size := hR ▸ (HR4.out 0 _ rfl).lt
      have hRw : w.heap.size + 1 < R := by omega
      obtain ⟨r5, hr5⟩ : ∃ r5, qusK 64 ps = r5 := ⟨_, rfl⟩
      have k5 := ask_all W4 R P0 (.ok ps) r5 HS4.out hr5
      have hq := HR1.out
      simp only [hr5] at hq
      have HR5 : Hid _ := hq
      have HQ5 : Hid (qusK 64 ps = r5) := hr5
      clear hq hr5 HR1 hb3 hb4 HPA2 HR4 HA2 HF2 hplen hPR HG3
      clear hW3 hW4
      refine k5.mono ?_
      rintro e w5 hsp
      obtain ⟨ka, ca, la, ha, a4a, n4a, c4a, a5a, n5a, c5a, rfl, hqa, hs, hg⟩ := hsp.ask
      have HQA : Hid (∀ a q, r5 = .ok (a, q) → QN (fun g => W4.heap.size ≤ g) w5 a [.int .i64 ka, .string (tx ca), .int .i64 la, .int .i64 ha, .slice a4a n4a c4a, .slice a5a n5a c5a]) := hqa
      have HA5 : Hid (Bx w5 w.heap.size z6) := HA4.out.gb hg (by omega)
      have HF5 : Hid (Bx w5 (w.heap.size + 1) f0) := HF4.out.gb hg (by omega)
      have HB5 : Hid (Below w.heap.size w w5) := below_of HB4.out hg (by omega)
      have HS5 : Hid (SS w5 R P0 (nxS r5)) := hs
      have hz5 := hg.size
      clear k5 hsp hqa hs hg HA4 HF4
      obtain ⟨W6, hW6⟩ : ∃ W6, w5.alloc (.cells #[.int .i64 ka, .string (tx ca), .int .i64 la, .int .i64 ha, .slice a4a n4a c4a, .slice a5a n5a c5a] 25) = W6 := ⟨_, rfl⟩
      have hb6 : Below w5.heap.size w5 W6 := hW6 ▸ ba _ _
      have HH6 : Hid (Bx W6 w5.heap.size [.int .i64 ka, .string (tx ca), .int .i64 la, .int .i64 ha, .slice a4a n4a c4a, .slice a5a n5a c5a]) := hW6 ▸ Bx.new w5 [.int .i64 ka, .string (tx ca), .int .i64 la, .int .i64 ha, .slice a4a n4a c4a, .slice a5a n5a c5a] 25 rfl
      have HA6 : Hid (Bx W6 w.heap.size z6) := HA5.out.at hb6
      have HF6 : Hid (Bx W6 (w.heap.size + 1) f0) := HF5.out.at hb6
      have HB6 : Hid (Below w.heap.size w W6) := bt HB5.out hb6
      have HS6 : Hid (SS W6 R P0 (nxS r5)) := HS5.out.at hb6
      have HQ6 : Hid (∀ a q, r5 = .ok (a, q) → QN (fun g => W4.heap.size ≤ g) W6 a [.int .i64 ka, .string (tx ca), .int .i64 la, .int .i64 ha, .slice a4a n4a c4a, .slice a5a n5a c5a]) := fun a q e => QN.kp (KG.bl hb6) (fun g h _ => h) a (HQA.out a q e)
      have hH6 : w5.heap.size < W6.heap.size := (HH6.out 0 _ rfl).lt
      clear hb6 HA5 HF5 HB5 HS5 HQA
      cases r5 with
      | error x =>
        obtain ⟨c, x⟩ := x
        obtain rfl : .error (c, x) = r := HR5.out
        have HS6' : Hid (SS W6 R P0 (.error (c, x))) := HS6.out
        obtain ⟨g0, hc⟩ := HS6'.out.dead
        have g1 := HS6'.out.dead3
        simp only at g0 g1 hc
        have b1 : (c == 0) = false := by simpa using hc
        have b2 : (c != 0) = true := by simpa using hc
        clear hc
        go_wp2_with fail
        clear hW6
        go_quiet (fail)
        obtain ⟨W8, hW8⟩ : ∃ W8, W6.drewN nq = W8 := ⟨_, rfl⟩
        rw [hW8]
        have hb8 : Below W6.heap.size W6 W8 := hW8 ▸ below_drewN (Below.refl _ _) _
        have HA8 : Hid (Bx W8 w.heap.size z6) := HA6.out.at hb8
        have HF8 : Hid (Bx W8 (w.heap.size + 1) f0) := HF6.out.at hb8
        have HB8 : Hid (Below w.heap.size w W8) := bt HB6.out hb8
        have HS8 : Hid (SS W8 R P0 (.error (c, x))) := HS6'.out.at hb8
        have g0 := HS8.out.dead.1
        have g1 := HS8.out.dead3
        simp only at g0 g1
        clear hb8 hW8
        go_wp2_with fail
        have z0 := (HA8.out 0 _ rfl).c
        have z1 := (HA8.out 1 _ rfl).c
        have z2 := (HA8.out 2 _ rfl).c
        have z3 := (HA8.out 3 _ rfl).c
        have z4 := (HA8.out 4 _ rfl).c
        have z5 := (HA8.out 5 _ rfl).c
        have y0 := (HA8.out 0 _ rfl).f
        have y1 := (HA8.out 1 _ rfl).f
        have y2 := (HA8.out 2 _ rfl).f
        have y3 := (HA8.out 3 _ rfl).f
        have y4 := (HA8.out 4 _ rfl).f
        have y5 := (HA8.out 5 _ rfl).f
        have p0 := (HF8.out 0 _ rfl).c
        have p1 := (HF8.out 1 _ rfl).c
        have q0 := (HF8.out 0 _ rfl).f
        have q1 := (HF8.out 1 _ rfl).f
        obtain ⟨hx1, -⟩ := two_boxes HA8.out rfl HF8.out rfl (by omega) HB8.out (Nat.le_refl _) (by omega) (.int .i64 0) (.string ⟨#[]⟩) (.int .i64 0) (.int .i64 0) (.slice none 0 0) (.slice none 0 0) (.int .i64 c) (.int .i64 (x : Int))
        obtain ⟨W7, hW7⟩ : ∃ W7, ((set6 W8 w.heap.size (.int .i64 0) (.string ⟨#[]⟩) (.int .i64 0) (.int .i64 0) (.slice none 0 0) (.slice none 0 0)).setCell ⟨w.heap.size + 1, 0, none⟩ (.int .i64 c)).setCell ⟨w.heap.size + 1, 1, none⟩ (.int .i64 (x : Int)) = W7 := ⟨_, rfl⟩
        rw [hW7] at hx1
        have HX : Hid _ := hx1
        clear hx1
        unfold set6 at hW7
        go_region
        try rw [hW7]
        go_wp2
        clear hW7
        have HX0 : Hid (Bx W7 w.heap.size _) := HX.out.1
        have HX1 : Hid (Bx W7 (w.heap.size + 1) _) := HX.out.2.1
        have x0 := (HX0.out 0 _ rfl).c
        have x1 := (HX0.out 1 _ rfl).c
        have x2 := (HX0.out 2 _ rfl).c
        have x3 := (HX0.out 3 _ rfl).c
        have x4 := (HX0.out 4 _ rfl).c
        have x5 := (HX0.out 5 _ rfl).c
        have f0 := (HX1.out 0 _ rfl).c
        have f1 := (HX1.out 1 _ rfl).c
        exact bodyPost_ret (v := .tuple #[.agg #[.int .i64 0, .string ⟨#[]⟩, .int .i64 0, .int .i64 0, .slice none 0 0, .slice none 0 0], .agg #[.int .i64 c, .int .i64 (x : Int)]]) (by simp [results, Tryd.results6, go_sem, x0, x1, x2, x3, x4, x5, f0, f1]) rfl ⟨by rw [HRR.out], HX.out.2.2.drew⟩
      | ok y =>
        obtain ⟨a1, q1⟩ := y
        have HS6' : Hid (SS W6 R P0 (.ok q1)) := HS6.out
        have HQ6' : Hid (QN (fun g => W4.heap.size ≤ g) W6 a1 [.int .i64 ka, .string (tx ca), .int .i64 la, .int .i64 ha, .slice a4a n4a c4a, .slice a5a n5a c5a]) := HQ6.out a1 q1 rfl
        obtain ⟨cc, i, n, s0, s1, s2, s3, hin, hnc, hn6, p0, p1, hPR, hPl, hRl, _, _⟩ := HS6'.out.alive
        have hini : (i : Int) < (n : Int) := by omega
        obtain ⟨x, hx⟩ : ∃ x, hd q1 = x := ⟨_, rfl⟩
        rw [hx] at p0
        by_cases hxe : x = []
        · have hq := HR5.out
          simp only [hx, if_pos hxe] at hq
          obtain rfl : .ok a1 = r := hq
          subst hxe
          have nq1 := neqs [] [] false (by simp)
          clear hx
          go_wp2_with fail
          clear hW6
          go_quiet (fail)
          obtain ⟨W8, hW8⟩ : ∃ W8, W6.drewN nq = W8 := ⟨_, rfl⟩
          rw [hW8]
          have hb8 : Below W6.heap.size W6 W8 := hW8 ▸ below_drewN (Below.refl _ _) _
          have HA8 : Hid (Bx W8 w.heap.size z6) := HA6.out.at hb8
          have HF8 : Hid (Bx W8 (w.heap.size + 1) f0) := HF6.out.at hb8
          have HB8 : Hid (Below w.heap.size w W8) := bt HB6.out hb8
          have HS8 : Hid (SS W8 R P0 (.ok q1)) := HS6'.out.at hb8
          have HH8 : Hid (Bx W8 w5.heap.size [.int .i64 ka, .string (tx ca), .int .i64 la, .int .i64 ha, .slice a4a n4a c4a, .slice a5a n5a c5a]) := HH6.out.at hb8
          have HQ8 : Hid (QN (fun g => W4.heap.size ≤ g) W8 a1 [.int .i64 ka, .string (tx ca), .int .i64 la, .int .i64 ha, .slice a4a n4a c4a, .slice a5a n5a c5a]) := QN.kp (KG.bl hb8) (fun g h _ => h) a1 HQ6'.out
          clear s0 s1 s2 s3 p0 p1 hb8 hW8 HA6 HF6
          have t2 : W8.cell? ⟨R, 2, none⟩ = some (.int .i64 0) := by
            obtain ⟨_, _, _, _, _, h2, _⟩ := HS8.out.alive
            exact h2
          have s0 := (HH8.out 0 _ rfl).c
          have s1 := (HH8.out 1 _ rfl).c
          have s2 := (HH8.out 2 _ rfl).c
          have s3 := (HH8.out 3 _ rfl).c
          have s4 := (HH8.out 4 _ rfl).c
          have s5 := (HH8.out 5 _ rfl).c
          have z0 := (HA8.out 0 _ rfl).c
          have z1 := (HA8.out 1 _ rfl).c
          have z2 := (HA8.out 2 _ rfl).c
          have z3 := (HA8.out 3 _ rfl).c
          have z4 := (HA8.out 4 _ rfl).c
          have z5 := (HA8.out 5 _ rfl).c
          have y0 := (HA8.out 0 _ rfl).f
          have y1 := (HA8.out 1 _ rfl).f
          have y2 := (HA8.out 2 _ rfl).f
          have y3 := (HA8.out 3 _ rfl).f
          have y4 := (HA8.out 4 _ rfl).f
          have y5 := (HA8.out 5 _ rfl).f
          have p0 := (HF8.out 0 _ rfl).c
          have p1 := (HF8.out 1 _ rfl).c
          have q0 := (HF8.out 0 _ rfl).f
          have q1 := (HF8.out 1 _ rfl).f
          obtain ⟨hx, -⟩ := two_boxes HA8.out rfl HF8.out rfl (by omega) HB8.out (Nat.le_refl _) (by omega) (.int .i64 ka) (.string (tx ca)) (.int .i64 la) (.int .i64 ha) (.slice a4a n4a c4a) (.slice a5a n5a c5a) (.int .i64 0) (.int .i64 0)
          obtain ⟨W9, hW9⟩ : ∃ W9, ((set6 W8 w.heap.size (.int .i64 ka) (.string (tx ca)) (.int .i64 la) (.int .i64 ha) (.slice a4a n4a c4a) (.slice a5a n5a c5a)).setCell ⟨w.heap.size + 1, 0, none⟩ (.int .i64 0)).setCell ⟨w.heap.size + 1, 1, none⟩ (.int .i64 0) = W9 := ⟨_, rfl⟩
          rw [hW9] at hx
          have HX : Hid _ := hx
          have hk9 : KG (fun g => W4.heap.size ≤ g) W8 W9 := hW9 ▸ ((KG.six (by omega) _ _ _ _ _ _).trans (KG.put (by omega) 0 _)).trans (KG.put (by omega) 1 _)
          have HQ9 : Hid (QN (fun g => w.heap.size ≤ g) W9 a1 [.int .i64 ka, .string (tx ca), .int .i64 la, .int .i64 ha, .slice a4a n4a c4a, .slice a5a n5a c5a]) := QN.kp hk9 (fun g h _ => by have h' : W4.heap.size ≤ g := h; show w.heap.size ≤ g; omega) a1 HQ8.out
          clear hx hk9
          unfold set6 at hW9
          go_wp2
          clear hW9
          have HX0 : Hid (Bx W9 w.heap.size _) := HX.out.1
          have HX1 : Hid (Bx W9 (w.heap.size + 1) _) := HX.out.2.1
          have x0 := (HX0.out 0 _ rfl).c
          have x1 := (HX0.out 1 _ rfl).c
          have x2 := (HX0.out 2 _ rfl).c
          have x3 := (HX0.out 3 _ rfl).c
          have x4 := (HX0.out 4 _ rfl).c
          have x5 := (HX0.out 5 _ rfl).c
          have f0 := (HX1.out 0 _ rfl).c
          have f1 := (HX1.out 1 _ rfl).c
          exact bodyPost_ret (v := .tuple #[.agg #[.int .i64 ka, .string (tx ca), .int .i64 la, .int .i64 ha, .slice a4a n4a c4a, .slice a5a n5a c5a], .agg #[.int .i64 0, .int .i64 0]]) (by simp [results, Tryd.results6, go_sem, x0, x1, x2, x3, x4, x5, f0, f1]) rfl ⟨by rw [HRR.out]; exact ⟨_, rfl, HQ9.out⟩, HX.out.2.2⟩
        · have hq := HR5.out
          simp only [hx, if_neg hxe] at hq
          obtain rfl : .error (2, hat q1) = r := hq
          have nq1 := neqs x [] true (by simpa using hxe)
          have nq2 : (x != []) = true := by simpa [bne] using hxe
          have nq3 : List.isEmpty x = false := by cases x with | nil => exact absurd rfl hxe | cons a r => rfl
          clear hx hxe
          go_wp2_with fail
          clear hW6
          go_quiet (fail)
          obtain ⟨W8, hW8⟩ : ∃ W8, W6.drewN nq = W8 := ⟨_, rfl⟩
          rw [hW8]
          have hb8 : Below W6.heap.size W6 W8 := hW8 ▸ below_drewN (Below.refl _ _) _
          have HA8 : Hid (Bx W8 w.heap.size z6) := HA6.out.at hb8
          have HF8 : Hid (Bx W8 (w.heap.size + 1) f0) := HF6.out.at hb8
          have HB8 : Hid (Below w.heap.size w W8) := bt HB6.out hb8
          have HS8 : Hid (SS W8 R P0 (.ok q1)) := HS6'.out.at hb8
          have kb := bad_any HS8.out 2 (by decide)
          clear s0 s1 s2 s3 p0 p1 hb8 hW8 HA6 HF6
          obtain ⟨xx, hxx⟩ : ∃ xx, hat q1 = xx := ⟨_, rfl⟩
          go_wp2_with fail
          refine kb.mono ?_
          rintro e w9 ⟨rfl, hs9, hg9⟩
          have HA9 : Hid (Bx w9 w.heap.size z6) := HA8.out.gb hg9 (by omega)
          have HF9 : Hid (Bx w9 (w.heap.size + 1) f0) := HF8.out.gb hg9 (by omega)
          have HB9 : Hid (Below w.heap.size w w9) := below_of HB8.out hg9 (by omega)
          have hs9' : SS w9 R P0 (.error (2, hat q1)) := hs9
          have g0 : w9.cell? ⟨R, 2, none⟩ = some (.int .i64 2) := hs9'.dead.1
          have g1 : w9.cell? ⟨R, 3, none⟩ = some (.int .i64 (xx : Int)) := hxx ▸ hs9'.dead3
          have HXX : Hid (hat q1 = xx) := hxx
          clear kb hs9 hs9' hg9 HA8 HF8 hxx
          go_wp2_with fail
          have z0 := (HA9.out 0 _ rfl).c
          have z1 := (HA9.out 1 _ rfl).c
          have z2 := (HA9.out 2 _ rfl).c
          have z3 := (HA9.out 3 _ rfl).c
          have z4 := (HA9.out 4 _ rfl).c
          have z5 := (HA9.out 5 _ rfl).c
          have y0 := (HA9.out 0 _ rfl).f
          have y1 := (HA9.out 1 _ rfl).f
          have y2 := (HA9.out 2 _ rfl).f
          have y3 := (HA9.out 3 _ rfl).f
          have y4 := (HA9.out 4 _ rfl).f
          have y5 := (HA9.out 5 _ rfl).f
          have p0 := (HF9.out 0 _ rfl).c
          have p1 := (HF9.out 1 _ rfl).c
          have q0 := (HF9.out 0 _ rfl).f
          have q1 := (HF9.out 1 _ rfl).f
          obtain ⟨hx1, -⟩ := two_boxes HA9.out rfl HF9.out rfl (by omega) HB9.out (Nat.le_refl _) (by omega) (.int .i64 0) (.string ⟨#[]⟩) (.int .i64 0) (.int .i64 0) (.slice none 0 0) (.slice none 0 0) (.int .i64 2) (.int .i64 (xx : Int))
          obtain ⟨W7, hW7⟩ : ∃ W7, ((set6 w9 w.heap.size (.int .i64 0) (.string ⟨#[]⟩) (.int .i64 0) (.int .i64 0) (.slice none 0 0) (.slice none 0 0)).setCell ⟨w.heap.size + 1, 0, none⟩ (.int .i64 2)).setCell ⟨w.heap.size + 1, 1, none⟩ (.int .i64 (xx : Int)) = W7 := ⟨_, rfl⟩
          rw [hW7] at hx1
          have HX : Hid _ := hx1
          clear hx1
          unfold set6 at hW7
          go_region
          try rw [hW7]
          go_wp2
          clear hW7
          have HX0 : Hid (Bx W7 w.heap.size _) := HX.out.1
          have HX1 : Hid (Bx W7 (w.heap.size + 1) _) := HX.out.2.1
          have x0 := (HX0.out 0 _ rfl).c
          have x1 := (HX0.out 1 _ rfl).c
          have x2 := (HX0.out 2 _ rfl).c
          have x3 := (HX0.out 3 _ rfl).c
          have x4 := (HX0.out 4 _ rfl).c
          have x5 := (HX0.out 5 _ rfl).c
          have f0 := (HX1.out 0 _ rfl).c
          have f1 := (HX1.out 1 _ rfl).c
          exact bodyPost_ret (v := .tuple #[.agg #[.int .i64 0, .string ⟨#[]⟩, .int .i64 0, .int .i64 0, .slice none 0 0, .slice none 0 0], .agg #[.int .i64 2, .int .i64 (xx : Int)]]) (by simp [results, Tryd.results6, go_sem, x0, x1, x2, x3, x4, x5, f0, f1]) rfl ⟨by rw [HRR.out, HXX.out], HX.out.2.2.drew⟩
end Go.Proofs.YtidfkencjdjkbaaDoor
