import Derived.Test.YthmkbkombjhaeaaQk24
import Derived.Test.YthmkbkombjhaeaaQk39
import Derived.Test.YthmkbkombjhaeaaQk40
import Derived.Test.YthmkbkombjhaeaaQk42
import Derived.Test.YthmkbkombjhaeaaQk43
import Derived.BigQuiet
namespace Go.Proofs.Ythmkbkombjhaeaa
open Go.RowKit Go.Proofs.Ythmkbkombjhaeaa.Ds

theorem wth_of {u d F x y e p q er : Int} {a b : List Pt} (hF : 0 ≤ F) (h : e = 4 ∨ (e = 0 ∧ x * d ^ (2 * F.toNat) ≤ u ^ (2 * F.toNat) * y)) (hf : farT a b = (x, y, e)) (hp : Rt.powT u d (2 * F) = (p, q, er)) : Wth x y e p q er := by
  rcases h with h | ⟨rfl, h⟩
  · exact .inl h
  · obtain ⟨_, _, _, _, _, hr, _⟩ := far_told hf
    have hb := Rt.right_bd hr
    refine .inr ⟨rfl, by omega, by omega, by omega, by omega, fun h0 => ?_⟩
    subst h0
    have e1 : (2 * F).toNat = 2 * F.toNat := by omega
    unfold Rt.powT at hp
    split at hp
    · rename_i h1
      have hb2 := Rt.right_bd h1
      split at hp
      · simp at hp
      · split at hp
        · simp at hp
        · rename_i h3
          simp only [Prod.mk.injEq, and_true] at hp
          obtain ⟨rfl, rfl⟩ := hp
          rw [e1] at h3 ⊢
          unfold Rt.mx at h3
          have n1 : 0 ≤ u ^ (2 * F.toNat) := Int.pow_nonneg (by omega)
          have n2 : 0 ≤ d ^ (2 * F.toNat) := Int.pow_nonneg (by omega)
          exact ⟨n1, by omega, n2, by omega, h⟩
    · simp at hp
/-- no score of those ahead of k has moved by more than F -/
def Nea (l m : List Int) (k : Nat) (F : Int) : Prop := ∀ i, i < k → max (l.getD i 0 - m.getD i 0) (m.getD i 0 - l.getD i 0) ≤ F
theorem Nea.step {l m : List Int} {k : Nat} {F G x y : Int} (h : Nea l m k F) (hx : l[k]? = some x) (hy : m[k]? = some y) (h1 : F ≤ G) (h2 : max (x - y) (y - x) ≤ G) : Nea l m (k + 1) G := by
  intro i hi
  by_cases c : i < k
  · have := h i c
    omega
  · have : i = k := by omega
    subst this
    have e1 : l.getD i 0 = x := by simp [List.getD, hx]
    have e2 : m.getD i 0 = y := by simp [List.getD, hy]
    rw [e1, e2]
    exact h2

set_option maxHeartbeats 8000000 in
set_option maxRecDepth 100000 in
theorem choiceKeeps_walk (B : Nat) (u d : Int) (vl vm : Value) (l m : List Int) (w : World) (hB : B ≤ w.heap.size) (hxl : Num w B vl l) (hxm : Num w B vm m) :
    Calls Try.prog 4 #[rv u d, vl, vm] w fun e w' => e = .returned (.bool true) ∧ Below w.heap.size w w' := by
  have HL : Hid (Num w B vl l) := hxl
  have HM : Hid (Num w B vm m) := hxm
  obtain ⟨la, lc, rfl, hlc, hll, _⟩ := hxl
  obtain ⟨ma, mc, rfl, hmc, hml, _⟩ := hxm
  have ka := fun W => alive_any W
  by_cases hlen : l.length = m.length
  · have HLen : Hid (l.length = m.length) := hlen
    have HM2 : Hid (Num w B (.slice ma l.length mc) m) := by have := HM.out; rwa [← hlen] at this
    rw [← hlen] at hmc hml ⊢
    clear hlen HM
    go_enter Try.func4, Try.ntmps4
    go_wp2_with fail
    refine (ka _).mono ?_
    rintro e w1 ⟨rfl, hb1⟩
    clear ka
    have G1 := bt (ba _ _) hb1
    obtain ⟨hc1, hf1⟩ := bcell hb1
    have k0 : w1.cell? ⟨w.heap.size, 0, none⟩ = some (.int .i64 u) := by rw [hc1 _ _ (by simp)]; simp [go_sem]
    have k1 : w1.cell? ⟨w.heap.size, 1, none⟩ = some (.int .i64 d) := by rw [hc1 _ _ (by simp)]; simp [go_sem]
    have klt : w.heap.size < w1.heap.size := by have := hb1.size; simp at this; omega
    clear hc1 hf1 hb1
    have HL1 : Hid (Num w1 B (.slice la l.length lc) l) := HL.out.at hB G1
    have HM1 : Hid (Num w1 B (.slice ma l.length mc) m) := HM2.out.at hB G1
    go_wp2
    go_loopw [7, 25] (fun fv iv wr => ∃ (k : Nat) (F : Int), k ≤ l.length ∧ 0 ≤ F ∧ F ≤ 2000000 ∧ Hid (Nea l m k F) ∧ fv = .int .i64 F ∧ iv = .int .i64 (k : Int) ∧ ∃ q, wr = w1.drewN q) (fun _ iv _ => l.length - (intOf iv).toNat)
    case atStart => exact ⟨0, 0, Nat.zero_le _, by omega, by omega, fun i hi => absurd hi (by omega), rfl, rfl, 0, rfl⟩
    case round =>
      obtain ⟨k, F, hk, F0, F1, HNea, rfl, rfl, q, rfl⟩ := hrel
      by_cases h1 : k < l.length
      · obtain ⟨b1, o1, c1', x, he1, hcc1, _, hx, hcx⟩ := HL1.out.get h1
        obtain ⟨b2, o2, c2', y, he2, hcc2, _, hy, hcy⟩ := HM1.out.get (i := k) (by rw [← HLen.out]; exact h1)
        simp only [Value.slice.injEq] at he1 he2
        obtain ⟨rfl, -, rfl⟩ := he1
        obtain ⟨rfl, -, rfl⟩ := he2
        have HXY : Hid (l[k]? = some x ∧ m[k]? = some y) := ⟨hx, hy⟩
        rw [← HLen.out] at hcc2
        clear hx hy
        by_cases cr : (-1000000 ≤ x ∧ x ≤ 1000000) ∧ (-1000000 ≤ y ∧ y ≤ 1000000)
        · obtain ⟨⟨x0, x1⟩, y0, y1⟩ := cr
          have g1 : ¬ 1000000 < x := by omega
          have g2 : ¬ x < -1000000 := by omega
          have g3 : ¬ 1000000 < y := by omega
          have g4 : ¬ y < -1000000 := by omega
          go_wp2
          go_quiet (fail)
          by_cases cd : x - y < 0
          · have cn : -(x - y) = y - x := by omega
            by_cases cf : F < y - x
            · have HN2 : Hid (Nea l m (k + 1) (y - x)) := HNea.out.step HXY.out.1 HXY.out.2 (by omega) (by omega)
              go_wp2
              go_roundw
              case rel => exact ⟨k + 1, y - x, h1, by omega, by omega, HN2, by first | rfl | go_num | (congr 1; omega), by go_num, _, by first | rfl | exact (dr1 _ _ _).choose_spec⟩
              case measure => simp [intOf]; omega
            · have HN2 : Hid (Nea l m (k + 1) F) := HNea.out.step HXY.out.1 HXY.out.2 (by omega) (by omega)
              go_wp2
              go_roundw
              case rel => exact ⟨k + 1, F, h1, by omega, by omega, HN2, by first | rfl | go_num, by go_num, _, by first | rfl | exact (dr1 _ _ _).choose_spec⟩
              case measure => simp [intOf]; omega
          · by_cases cf : F < x - y
            · have HN2 : Hid (Nea l m (k + 1) (x - y)) := HNea.out.step HXY.out.1 HXY.out.2 (by omega) (by omega)
              go_wp2
              go_roundw
              case rel => exact ⟨k + 1, x - y, h1, by omega, by omega, HN2, by first | rfl | go_num, by go_num, _, by first | rfl | exact (dr1 _ _ _).choose_spec⟩
              case measure => simp [intOf]; omega
            · have HN2 : Hid (Nea l m (k + 1) F) := HNea.out.step HXY.out.1 HXY.out.2 (by omega) (by omega)
              go_wp2
              go_roundw
              case rel => exact ⟨k + 1, F, h1, by omega, by omega, HN2, by first | rfl | go_num, by go_num, _, by first | rfl | exact (dr1 _ _ _).choose_spec⟩
              case measure => simp [intOf]; omega
        · obtain ⟨D, hD⟩ : ∃ D, IntKind.i64.wrap (x - y) = D := ⟨_, rfl⟩
          have HG : Hid (¬ ((-1000000 ≤ x ∧ x ≤ 1000000) ∧ (-1000000 ≤ y ∧ y ≤ 1000000))) := cr
          clear HNea cr
          go_wp2
          go_quiet (fail)
          by_cases cd : D < 0
          · by_cases g1 : 1000000 < x
            · go_wp2
              go_ret
              exact ⟨rfl, below_drewN G1 _⟩
            · by_cases g2 : x < -1000000
              · go_wp2
                go_ret
                exact ⟨rfl, below_drewN G1 _⟩
              · by_cases g3 : 1000000 < y
                · go_wp2
                  go_ret
                  exact ⟨rfl, below_drewN G1 _⟩
                · have g4 : y < -1000000 := by have := HG.out; omega
                  go_wp2
                  go_ret
                  exact ⟨rfl, below_drewN G1 _⟩
          · by_cases g1 : 1000000 < x
            · go_wp2
              go_ret
              exact ⟨rfl, below_drewN G1 _⟩
            · by_cases g2 : x < -1000000
              · go_wp2
                go_ret
                exact ⟨rfl, below_drewN G1 _⟩
              · by_cases g3 : 1000000 < y
                · go_wp2
                  go_ret
                  exact ⟨rfl, below_drewN G1 _⟩
                · have g4 : y < -1000000 := by have := HG.out; omega
                  go_wp2
                  go_ret
                  exact ⟨rfl, below_drewN G1 _⟩
      · have hkk : k = l.length := by omega
        have HNe : Hid (∀ i, i < l.length → max (l.getD i 0 - m.getD i 0) (m.getD i 0 - l.getD i 0) ≤ ((F.toNat : Nat) : Int)) := by
          intro i hi
          have := HNea.out i (by omega)
          omega
        obtain ⟨⟨p, qq, er⟩, hp⟩ : ∃ z, Rt.powT u d (2 * F) = z := ⟨_, rfl⟩
        have HP : Hid (Rt.powT u d (2 * F) = (p, qq, er)) := hp
        obtain ⟨⟨wka, wea⟩, hwa⟩ : ∃ z, weighT u d l = z := ⟨_, rfl⟩
        obtain ⟨⟨wkb, web⟩, hwb⟩ : ∃ z, weighT u d m = z := ⟨_, rfl⟩
        obtain ⟨⟨fka, fea⟩, hfa⟩ : ∃ z, flipT u d l = z := ⟨_, rfl⟩
        obtain ⟨⟨fkb, feb⟩, hfb⟩ : ∃ z, flipT u d m = z := ⟨_, rfl⟩
        have HWa : Hid (weighT u d l = (wka, wea)) := hwa
        have HWb : Hid (weighT u d m = (wkb, web)) := hwb
        have HFa : Hid (flipT u d l = (fka, fea)) := hfa
        have HFb : Hid (flipT u d m = (fkb, feb)) := hfb
        have kp := fun W => refPower_any u d (2 * F) p qq er hp W
        have kwl := fun W h hB => weigh_any B u d (.slice la l.length lc) l W h hB wka wea hwa
        have kwm := fun W h hB => weigh_any B u d (.slice ma l.length mc) m W h hB wkb web hwb
        have kfl := fun W h hB => flip_any B u d (.slice la l.length lc) l W h hB fka fea hfa
        have kfm := fun W h hB => flip_any B u d (.slice ma l.length mc) m W h hB fkb feb hfb
        obtain ⟨w2, hw2⟩ : ∃ w2, w1.drewN q = w2 := ⟨_, rfl⟩
        have hb2 : Below w1.heap.size w1 w2 := hw2 ▸ below_drewN (Below.refl _ _) q
        have G2 := bt G1 hb2
        have j0 : w2.cell? ⟨w.heap.size, 0, none⟩ = some (.int .i64 u) := (hb2.cell (p := ⟨w.heap.size, 0, none⟩) klt).trans k0
        have j1 : w2.cell? ⟨w.heap.size, 1, none⟩ = some (.int .i64 d) := (hb2.cell (p := ⟨w.heap.size, 1, none⟩) klt).trans k1
        have j4 := hb2.size
        rw [hw2]
        clear hw2 hb2 hp hwa hwb hfa hfb HNea HL1 HM1 k0 k1
        go_wp2_with fail
        refine (kp _).mono ?_
        rintro e w3 ⟨rfl, hb3⟩
        clear kp
        have G3 := bt G2 hb3
        have i0 : w3.cell? ⟨w.heap.size, 0, none⟩ = some (.int .i64 u) := (hb3.cell (p := ⟨w.heap.size, 0, none⟩) (by show w.heap.size < _; omega)).trans j0
        have i1 : w3.cell? ⟨w.heap.size, 1, none⟩ = some (.int .i64 d) := (hb3.cell (p := ⟨w.heap.size, 1, none⟩) (by show w.heap.size < _; omega)).trans j1
        have i4 := hb3.size
        have i5 : w.heap.size < w3.heap.size := by omega
        have i6 : ¬ w.heap.size = w3.heap.size := by omega
        clear hb3 j0 j1
        go_wp2_with fail
        refine (kwl _ (HL.out.at hB (bal G3 _)) (by have := G3.size; simp; omega)).mono ?_
        rintro e w4 ⟨v4, us4, rfl, h4, o4, b4, _⟩
        clear kwl
        obtain ⟨a4, c4, rfl⟩ := o4.slice
        have H4 : Hid (OwnN w4 _ (.slice a4 us4.length c4) us4 ∧ rd us4 = wka) := ⟨o4, h4⟩
        have G4 := bt (bal G3 _) b4
        obtain ⟨hc4, hf4⟩ := bcell b4
        have x0 : w4.cell? ⟨w.heap.size, 0, none⟩ = some (.int .i64 u) := (hc4 _ _ (by simp; omega)).trans (((ba w3 _).cell (p := ⟨w.heap.size, 0, none⟩) (by show w.heap.size < _; omega)).trans i0)
        have x1 : w4.cell? ⟨w.heap.size, 1, none⟩ = some (.int .i64 d) := (hc4 _ _ (by simp; omega)).trans (((ba w3 _).cell (p := ⟨w.heap.size, 1, none⟩) (by show w.heap.size < _; omega)).trans i1)
        have x2 : w4.cell? ⟨w3.heap.size, 0, none⟩ = some (.int .i64 p) := by rw [hc4 _ _ (by simp)]; simp [go_sem]
        have x3 : w4.cell? ⟨w3.heap.size, 1, none⟩ = some (.int .i64 qq) := by rw [hc4 _ _ (by simp)]; simp [go_sem]
        have x4 : w3.heap.size < w4.heap.size := by have := b4.size; simp at this; omega
        clear hc4 hf4 b4 o4 h4 i0 i1
        go_wp2_with fail
        refine (kwm _ (HM2.out.at hB G4) (by have := G4.size; omega)).mono ?_
        rintro e w5 ⟨v5, us5, rfl, h5, o5, b5, _⟩
        clear kwm
        obtain ⟨a5, c5, rfl⟩ := o5.slice
        have H5 : Hid (OwnN w5 _ (.slice a5 us5.length c5) us5 ∧ rd us5 = wkb) := ⟨o5, h5⟩
        have G5 := bt G4 b5
        have y0 : w5.cell? ⟨w.heap.size, 0, none⟩ = some (.int .i64 u) := (b5.cell (p := ⟨w.heap.size, 0, none⟩) (by show w.heap.size < _; omega)).trans x0
        have y1 : w5.cell? ⟨w.heap.size, 1, none⟩ = some (.int .i64 d) := (b5.cell (p := ⟨w.heap.size, 1, none⟩) (by show w.heap.size < _; omega)).trans x1
        have y2 : w5.cell? ⟨w3.heap.size, 0, none⟩ = some (.int .i64 p) := (b5.cell (p := ⟨w3.heap.size, 0, none⟩) (by show w3.heap.size < _; omega)).trans x2
        have y3 : w5.cell? ⟨w3.heap.size, 1, none⟩ = some (.int .i64 qq) := (b5.cell (p := ⟨w3.heap.size, 1, none⟩) (by show w3.heap.size < _; omega)).trans x3
        have y4 := b5.size
        have HB5 : Hid (Below w4.heap.size w4 w5) := b5
        clear o5 h5 b5 x0 x1 x2 x3
        by_cases e1 : wea = 0
        · subst e1
          by_cases e2 : web = 0
          · subst e2
            obtain ⟨⟨fx, fy, fe⟩, hff⟩ : ∃ z, farT (rd us4) (rd us5) = z := ⟨_, rfl⟩
            have kw := within_any w5.heap.size _ _ us4 us5 w5 (Nat.le_refl _) ((H4.out.1.parts.keep HB5.out).mono y4) H5.out.1.parts fx fy fe p qq er hff (wth_of F0 (weigh_keeps HLen.out HNe.out HWa.out HWb.out (by rw [← H4.out.2, ← H5.out.2]; exact hff)) (a := rd us4) (b := rd us5) hff HP.out)
            clear hff H4 H5
            go_wp2_with fail
            refine kw.mono ?_
            rintro e wx ⟨rfl, bx⟩
            clear kw
            have Gx := bt G5 bx
            have z0 : wx.cell? ⟨w.heap.size, 0, none⟩ = some (.int .i64 u) := (bx.cell (p := ⟨w.heap.size, 0, none⟩) (by show w.heap.size < _; omega)).trans y0
            have z1 : wx.cell? ⟨w.heap.size, 1, none⟩ = some (.int .i64 d) := (bx.cell (p := ⟨w.heap.size, 1, none⟩) (by show w.heap.size < _; omega)).trans y1
            have z2 : wx.cell? ⟨w3.heap.size, 0, none⟩ = some (.int .i64 p) := (bx.cell (p := ⟨w3.heap.size, 0, none⟩) (by show w3.heap.size < _; omega)).trans y2
            have z3 : wx.cell? ⟨w3.heap.size, 1, none⟩ = some (.int .i64 qq) := (bx.cell (p := ⟨w3.heap.size, 1, none⟩) (by show w3.heap.size < _; omega)).trans y3
            have z4 := bx.size
            clear bx y0 y1 y2 y3
            go_wp2_with fail
            refine (kfl _ (HL.out.at hB Gx) (by have := Gx.size; omega)).mono ?_
            rintro e w6 ⟨v6, us6, rfl, h6, o6, b6, _⟩
            obtain ⟨a6, c6, rfl⟩ := o6.slice
            have H6 : Hid (OwnN w6 wx.heap.size (.slice a6 us6.length c6) us6 ∧ rd us6 = fka) := ⟨o6, h6⟩
            have G6 := bt Gx b6
            have p0 : w6.cell? ⟨w.heap.size, 0, none⟩ = some (.int .i64 u) := (b6.cell (p := ⟨w.heap.size, 0, none⟩) (by show w.heap.size < _; omega)).trans z0
            have p1 : w6.cell? ⟨w.heap.size, 1, none⟩ = some (.int .i64 d) := (b6.cell (p := ⟨w.heap.size, 1, none⟩) (by show w.heap.size < _; omega)).trans z1
            have p2 : w6.cell? ⟨w3.heap.size, 0, none⟩ = some (.int .i64 p) := (b6.cell (p := ⟨w3.heap.size, 0, none⟩) (by show w3.heap.size < _; omega)).trans z2
            have p3 : w6.cell? ⟨w3.heap.size, 1, none⟩ = some (.int .i64 qq) := (b6.cell (p := ⟨w3.heap.size, 1, none⟩) (by show w3.heap.size < _; omega)).trans z3
            have p4 := b6.size
            clear o6 h6
            go_wp2_with fail
            refine (kfm _ (HM2.out.at hB G6) (by have := G6.size; omega)).mono ?_
            rintro e w7 ⟨v7, us7, rfl, h7, o7, b7, _⟩
            obtain ⟨a7, c7, rfl⟩ := o7.slice
            have H7 : Hid (OwnN w7 w6.heap.size (.slice a7 us7.length c7) us7 ∧ rd us7 = fkb) := ⟨o7, h7⟩
            have G7 := bt G6 b7
            have n2 : w7.cell? ⟨w3.heap.size, 0, none⟩ = some (.int .i64 p) := (b7.cell (p := ⟨w3.heap.size, 0, none⟩) (by show w3.heap.size < _; omega)).trans p2
            have n3 : w7.cell? ⟨w3.heap.size, 1, none⟩ = some (.int .i64 qq) := (b7.cell (p := ⟨w3.heap.size, 1, none⟩) (by show w3.heap.size < _; omega)).trans p3
            have n4 := b7.size
            have HB7 : Hid (Below w6.heap.size w6 w7) := b7
            clear o7 h7 b6 b7 kfl kfm
            by_cases f1 : fea = 0
            · subst f1
              by_cases f2 : feb = 0
              · subst f2
                obtain ⟨⟨fx, fy, fe⟩, hff⟩ : ∃ z, farT (rd us6) (rd us7) = z := ⟨_, rfl⟩
                have kw := within_any w7.heap.size _ _ us6 us7 w7 (Nat.le_refl _) ((H6.out.1.parts.keep HB7.out).mono n4) H7.out.1.parts fx fy fe p qq er hff (wth_of F0 (flip_keeps HLen.out HNe.out HFa.out HFb.out (by rw [← H6.out.2, ← H7.out.2]; exact hff)) (a := rd us6) (b := rd us7) hff HP.out)
                clear hff H6 H7
                go_wp2_with fail
                refine kw.mono ?_
                rintro e w8 ⟨rfl, b8⟩
                clear kw
                have G8 := bt G7 b8
                go_wp2
                go_ret
                exact ⟨rfl, G8⟩
              · have f3 : (feb == 0) = false := by simpa using f2
                have f4 : (feb != 0) = true := by simpa using f2
                clear H6 H7 HFa HFb
                go_wp2
                go_ret
                exact ⟨rfl, G7⟩
            · have f3 : (fea == 0) = false := by simpa using f1
              have f4 : (fea != 0) = true := by simpa using f1
              clear H6 H7 HFa HFb
              go_wp2
              go_ret
              exact ⟨rfl, G7⟩
          · have e3 : (web == 0) = false := by simpa using e2
            have e4 : (web != 0) = true := by simpa using e2
            have z0 := y0
            have z1 := y1
            have z2 := y2
            have z3 := y3
            clear H4 H5 HWa HWb y0 y1 y2 y3
            go_wp2_with fail
            refine (kfl _ (HL.out.at hB G5) (by have := G5.size; omega)).mono ?_
            rintro e w6 ⟨v6, us6, rfl, h6, o6, b6, _⟩
            obtain ⟨a6, c6, rfl⟩ := o6.slice
            have H6 : Hid (OwnN w6 w5.heap.size (.slice a6 us6.length c6) us6 ∧ rd us6 = fka) := ⟨o6, h6⟩
            have G6 := bt G5 b6
            have p0 : w6.cell? ⟨w.heap.size, 0, none⟩ = some (.int .i64 u) := (b6.cell (p := ⟨w.heap.size, 0, none⟩) (by show w.heap.size < _; omega)).trans z0
            have p1 : w6.cell? ⟨w.heap.size, 1, none⟩ = some (.int .i64 d) := (b6.cell (p := ⟨w.heap.size, 1, none⟩) (by show w.heap.size < _; omega)).trans z1
            have p2 : w6.cell? ⟨w3.heap.size, 0, none⟩ = some (.int .i64 p) := (b6.cell (p := ⟨w3.heap.size, 0, none⟩) (by show w3.heap.size < _; omega)).trans z2
            have p3 : w6.cell? ⟨w3.heap.size, 1, none⟩ = some (.int .i64 qq) := (b6.cell (p := ⟨w3.heap.size, 1, none⟩) (by show w3.heap.size < _; omega)).trans z3
            have p4 := b6.size
            clear o6 h6
            go_wp2_with fail
            refine (kfm _ (HM2.out.at hB G6) (by have := G6.size; omega)).mono ?_
            rintro e w7 ⟨v7, us7, rfl, h7, o7, b7, _⟩
            obtain ⟨a7, c7, rfl⟩ := o7.slice
            have H7 : Hid (OwnN w7 w6.heap.size (.slice a7 us7.length c7) us7 ∧ rd us7 = fkb) := ⟨o7, h7⟩
            have G7 := bt G6 b7
            have n2 : w7.cell? ⟨w3.heap.size, 0, none⟩ = some (.int .i64 p) := (b7.cell (p := ⟨w3.heap.size, 0, none⟩) (by show w3.heap.size < _; omega)).trans p2
            have n3 : w7.cell? ⟨w3.heap.size, 1, none⟩ = some (.int .i64 qq) := (b7.cell (p := ⟨w3.heap.size, 1, none⟩) (by show w3.heap.size < _; omega)).trans p3
            have n4 := b7.size
            have HB7 : Hid (Below w6.heap.size w6 w7) := b7
            clear o7 h7 b6 b7 kfl kfm
            by_cases f1 : fea = 0
            · subst f1
              by_cases f2 : feb = 0
              · subst f2
                obtain ⟨⟨fx, fy, fe⟩, hff⟩ : ∃ z, farT (rd us6) (rd us7) = z := ⟨_, rfl⟩
                have kw := within_any w7.heap.size _ _ us6 us7 w7 (Nat.le_refl _) ((H6.out.1.parts.keep HB7.out).mono n4) H7.out.1.parts fx fy fe p qq er hff (wth_of F0 (flip_keeps HLen.out HNe.out HFa.out HFb.out (by rw [← H6.out.2, ← H7.out.2]; exact hff)) (a := rd us6) (b := rd us7) hff HP.out)
                clear hff H6 H7
                go_wp2_with fail
                refine kw.mono ?_
                rintro e w8 ⟨rfl, b8⟩
                clear kw
                have G8 := bt G7 b8
                go_wp2
                go_ret
                exact ⟨rfl, G8⟩
              · have f3 : (feb == 0) = false := by simpa using f2
                have f4 : (feb != 0) = true := by simpa using f2
                clear H6 H7 HFa HFb
                go_wp2
                go_ret
                exact ⟨rfl, G7⟩
            · have f3 : (fea == 0) = false := by simpa using f1
              have f4 : (fea != 0) = true := by simpa using f1
              clear H6 H7 HFa HFb
              go_wp2
              go_ret
              exact ⟨rfl, G7⟩
        · have e3 : (wea == 0) = false := by simpa using e1
          have e4 : (wea != 0) = true := by simpa using e1
          have z0 := y0
          have z1 := y1
          have z2 := y2
          have z3 := y3
          clear H4 H5 HWa HWb y0 y1 y2 y3
          go_wp2_with fail
          refine (kfl _ (HL.out.at hB G5) (by have := G5.size; omega)).mono ?_
          rintro e w6 ⟨v6, us6, rfl, h6, o6, b6, _⟩
          obtain ⟨a6, c6, rfl⟩ := o6.slice
          have H6 : Hid (OwnN w6 w5.heap.size (.slice a6 us6.length c6) us6 ∧ rd us6 = fka) := ⟨o6, h6⟩
          have G6 := bt G5 b6
          have p0 : w6.cell? ⟨w.heap.size, 0, none⟩ = some (.int .i64 u) := (b6.cell (p := ⟨w.heap.size, 0, none⟩) (by show w.heap.size < _; omega)).trans z0
          have p1 : w6.cell? ⟨w.heap.size, 1, none⟩ = some (.int .i64 d) := (b6.cell (p := ⟨w.heap.size, 1, none⟩) (by show w.heap.size < _; omega)).trans z1
          have p2 : w6.cell? ⟨w3.heap.size, 0, none⟩ = some (.int .i64 p) := (b6.cell (p := ⟨w3.heap.size, 0, none⟩) (by show w3.heap.size < _; omega)).trans z2
          have p3 : w6.cell? ⟨w3.heap.size, 1, none⟩ = some (.int .i64 qq) := (b6.cell (p := ⟨w3.heap.size, 1, none⟩) (by show w3.heap.size < _; omega)).trans z3
          have p4 := b6.size
          clear o6 h6
          go_wp2_with fail
          refine (kfm _ (HM2.out.at hB G6) (by have := G6.size; omega)).mono ?_
          rintro e w7 ⟨v7, us7, rfl, h7, o7, b7, _⟩
          obtain ⟨a7, c7, rfl⟩ := o7.slice
          have H7 : Hid (OwnN w7 w6.heap.size (.slice a7 us7.length c7) us7 ∧ rd us7 = fkb) := ⟨o7, h7⟩
          have G7 := bt G6 b7
          have n2 : w7.cell? ⟨w3.heap.size, 0, none⟩ = some (.int .i64 p) := (b7.cell (p := ⟨w3.heap.size, 0, none⟩) (by show w3.heap.size < _; omega)).trans p2
          have n3 : w7.cell? ⟨w3.heap.size, 1, none⟩ = some (.int .i64 qq) := (b7.cell (p := ⟨w3.heap.size, 1, none⟩) (by show w3.heap.size < _; omega)).trans p3
          have n4 := b7.size
          have HB7 : Hid (Below w6.heap.size w6 w7) := b7
          clear o7 h7 b6 b7 kfl kfm
          by_cases f1 : fea = 0
          · subst f1
            by_cases f2 : feb = 0
            · subst f2
              obtain ⟨⟨fx, fy, fe⟩, hff⟩ : ∃ z, farT (rd us6) (rd us7) = z := ⟨_, rfl⟩
              have kw := within_any w7.heap.size _ _ us6 us7 w7 (Nat.le_refl _) ((H6.out.1.parts.keep HB7.out).mono n4) H7.out.1.parts fx fy fe p qq er hff (wth_of F0 (flip_keeps HLen.out HNe.out HFa.out HFb.out (by rw [← H6.out.2, ← H7.out.2]; exact hff)) (a := rd us6) (b := rd us7) hff HP.out)
              clear hff H6 H7
              go_wp2_with fail
              refine kw.mono ?_
              rintro e w8 ⟨rfl, b8⟩
              clear kw
              have G8 := bt G7 b8
              go_wp2
              go_ret
              exact ⟨rfl, G8⟩
            · have f3 : (feb == 0) = false := by simpa using f2
              have f4 : (feb != 0) = true := by simpa using f2
              clear H6 H7 HFa HFb
              go_wp2
              go_ret
              exact ⟨rfl, G7⟩
          · have f3 : (fea == 0) = false := by simpa using f1
            have f4 : (fea != 0) = true := by simpa using f1
            clear H6 H7 HFa HFb
            go_wp2
            go_ret
            exact ⟨rfl, G7⟩
  · have hne : ((l.length : Int) == (m.length : Int)) = false := beq_eq_false_iff_ne.2 (by omega)
    have hne2 : ((l.length : Int) != (m.length : Int)) = true := by simp only [bne, hne, Bool.not_false]
    go_enter Try.func4, Try.ntmps4
    go_wp2_with fail
    refine (ka _).mono ?_
    rintro e w1 ⟨rfl, hb1⟩
    clear ka
    have G1 := bt (ba _ _) hb1
    go_wp2
    go_ret
    exact ⟨rfl, G1⟩
end Go.Proofs.Ythmkbkombjhaeaa
