import Derived.Test.YtdcdjjemndadaaaKey
import Derived.Deep.DeepCutAuto
namespace Go.Proofs.Ytdcdjjemndadaaa
open Go.RowKit Go.Proofs.Ytdcdjjemndadaaa.Ds

theorem fc_lt {b : Nat} {n m : Int} {W : World} (h : Fc b n m W) : b < W.heap.size := by
  have h := h.1
  unfold World.cell? at h
  split at h
  · rename_i hb; exact (Array.getElem?_eq_some_iff.1 hb).1
  · cases h

set_option maxHeartbeats 4000000 in
set_option maxRecDepth 100000 in
theorem distCompose_walk (B : Nat) (v0 v1 v2 v3 : Value) (ts us : List Tr) (fs gs : List Fl) (w : World) (hB : B ≤ w.heap.size) (hp : Parts w B v0 ts) (hq : Parts w B v1 us) (hf : Fws w B v2 fs) (hg : Fws w B v3 gs) :
    Calls Try.prog 8 #[v0, v1, v2, v3] w fun e w' => e = .returned (.bool true) ∧ Below w.heap.size w w' := by
  have H0 : Hid (Parts w B v0 ts) := hp
  have H1 : Hid (Parts w B v1 us) := hq
  have H2 : Hid (Fws w B v2 fs) := hf
  have H3 : Hid (Fws w B v3 gs) := hg
  obtain ⟨a0, c0, rfl, _, hl0, _⟩ := hp
  obtain ⟨a1, c1, rfl, _⟩ := hq
  obtain ⟨a2, c2, rfl, _⟩ := hf
  obtain ⟨a3, c3, rfl, _⟩ := hg
  obtain ⟨F, HF⟩ : ∃ F, Hid (thenT (fd fs) = F) := ⟨_, rfl⟩
  obtain ⟨G, HG⟩ : ∃ G, Hid (thenT (fd gs) = G) := ⟨_, rfl⟩
  obtain ⟨⟨n1, d1, e1⟩, HF1⟩ : ∃ x, Hid (farT (rd ts) (rd us) = x) := ⟨_, rfl⟩
  go_enter Try.func8, Try.ntmps8
  go_wp2_with fail
  refine (alive_any w).mono ?_
  rintro e w0 ⟨rfl, G0⟩
  go_wp2_with fail
  refine (far_any B _ _ ts us w0 (Nat.le_trans hB G0.size) (H0.out.at hB G0) (H1.out.at hB G0) n1 d1 e1 HF1.out).mono ?_
  rintro e w1 ⟨rfl, hb1⟩
  have G1 : Below w.heap.size w (w1.alloc (.cells #[.int .i64 n1, .int .i64 d1] 34)) := bal (bt G0 hb1) _
  have t1 : w.heap.size ≤ w1.heap.size := (bt G0 hb1).size
  clear hb1 G0
  by_cases z1 : e1 = 0
  · subst z1
    obtain ⟨R, hR⟩ : ∃ R, w1.heap.size = R := ⟨_, rfl⟩
    go_upto_region 7 with fail
    obtain ⟨M, hM⟩ : ∃ M, R + 1 = M := ⟨_, rfl⟩
    obtain ⟨W2, hW2⟩ : ∃ W, (w1.alloc (.cells #[.int .i64 n1, .int .i64 d1] 34)).alloc (.cells #[.int .i64 1, .int .i64 1] 34) = W := ⟨_, rfl⟩
    have G2 : Below w.heap.size w W2 := hW2 ▸ bal G1 _
    have HR2 : Hid (Fc R n1 d1 W2) := by
      show Fc R n1 d1 W2
      rw [← hW2, ← hR]
      exact (fc_new w1 n1 d1).at (ba _ _) (by simp)
    have HM2 : Hid (Fc M 1 1 W2) := by
      have := fc_new (w1.alloc (.cells #[.int .i64 n1, .int .i64 d1] 34)) 1 1
      rw [hW2] at this
      have e : (w1.alloc (.cells #[.int .i64 n1, .int .i64 d1] 34)).heap.size = M := by simp; omega
      rw [e] at this
      exact this
    have t2 : W2.heap.size = M + 1 := by rw [← hW2]; simp; omega
    have t3 : R + 1 = M := by omega
    have t4 : w.heap.size ≤ R := by omega
    rw [hW2, hM]
    clear hW2 G1 hM hR t1
    go_wp2
    go_loopw [34] (fun iv wr => ∃ (i : Nat) (V E : Int), iv = .int .i64 (i : Int) ∧ i ≤ ts.length ∧ Hid (By F G (rd ts) i V E ∧ Fc R n1 d1 wr ∧ Fc M V E wr) ∧ M < wr.heap.size ∧ Below w.heap.size w wr) (fun iv _ => ts.length - (intOf iv).toNat)
    case atStart => exact ⟨0, 1, 1, rfl, Nat.zero_le _, ⟨By.nil _ _ _, HR2.out, HM2.out⟩, by omega, G2⟩
    case round => as_aux_lemma =>
      obtain ⟨i, V, E, rfl, hit, HY, hMl, bw⟩ := hrel
      have hbs := bw.size
      by_cases h1 : i < ts.length
      · obtain ⟨b, o, sa, sc, xs, k, rfl, hb, hs0, c1, c2, hIx⟩ := H0.out.get hB bw h1
        have HS : Hid ((rd ts)[i]? = some (xs, k)) := rd_get hs0
        obtain ⟨⟨n3, d3, e3⟩, HF3⟩ : ∃ x, Hid (farT (F xs) (G xs) = x) := ⟨_, rfl⟩
        have HIx : Hid (Ints wr B B (.slice sa xs.length sc) xs) := hIx
        clear hs0 hIx
        go_upto_region 10 with fail
        obtain ⟨W, hW⟩ : ∃ W, wr.alloc (.cells #[.slice sa xs.length sc, .int .i64 k] 32) = W := ⟨_, rfl⟩
        obtain ⟨N, hN⟩ : ∃ N, wr.heap.size = N := ⟨_, rfl⟩
        have HBW : Hid (Below wr.heap.size wr W) := hW ▸ ba wr _
        have q1 : W.cell? ⟨N, 0, none⟩ = some (.slice sa xs.length sc) := by rw [← hW, ← hN]; simp [go_sem]
        have q2 : W.heap.size = N + 1 := by rw [← hW, ← hN]; simp
        have GW : Below w.heap.size w W := bt bw HBW.out
        have q3 : B ≤ W.heap.size := Nat.le_trans hB GW.size
        have q4 : N < W.heap.size := by omega
        have HIW : Hid (Ints W B B (.slice sa xs.length sc) xs) := HIx.out.at (by omega) HBW.out
        rw [hW, hN]
        clear hW c1 c2
        go_cut [14, 15] (fun pv ev wx => ∃ A, pv = .pointer (some ⟨A, 0, none⟩) ∧ ev = .int .i64 e3 ∧ Fc A n3 d3 wx ∧ W.heap.size ≤ A ∧ A < wx.heap.size ∧ Below W.heap.size W wx)
        case first => as_aux_lemma =>
          go_region_held3 (fun w' => w'.cell? ⟨N, 0, none⟩ = some (.slice sa xs.length sc))
            (first | with_reducible assumption | (refine ((ba _ _).cell (p := ⟨N, 0, none⟩) ?_).trans ?_; (show N < _; first | exact q4 | omega); (first | exact g7 | exact g6 | exact g5 | exact q1)) | (simp [go_sem, *]; done))
            (first
              | (have hmark := hb6; clear hmark; go_at_call 27; refine (far_any w6.heap.size _ _ x1 x2 _ ?_ ?_ ?_ n3 d3 e3 HX3.out).mono ?_; (exact ((by first | with_reducible exact (Below.refl w6.heap.size w6) | with_reducible exact (Below.refl w6.heap.size w6).drew | with_reducible exact bal (Below.refl w6.heap.size w6) _ | with_reducible exact bal (Below.refl w6.heap.size w6).drew _ | with_reducible exact (bal (Below.refl w6.heap.size w6) _).drew) : Below w6.heap.size w6 _).size); (exact HX1.out.at (Nat.le_refl _) (by first | with_reducible exact (Below.refl w6.heap.size w6) | with_reducible exact (Below.refl w6.heap.size w6).drew | with_reducible exact bal (Below.refl w6.heap.size w6) _ | with_reducible exact bal (Below.refl w6.heap.size w6).drew _ | with_reducible exact (bal (Below.refl w6.heap.size w6) _).drew)); (exact HX2.out.at (Nat.le_refl _) (by first | with_reducible exact (Below.refl w6.heap.size w6) | with_reducible exact (Below.refl w6.heap.size w6).drew | with_reducible exact bal (Below.refl w6.heap.size w6) _ | with_reducible exact bal (Below.refl w6.heap.size w6).drew _ | with_reducible exact (bal (Below.refl w6.heap.size w6) _).drew)); rintro e w7 ⟨rfl, hb7'⟩; have h67 : Below w6.heap.size w6 w7 := (bt (by first | with_reducible exact (Below.refl w6.heap.size w6) | with_reducible exact (Below.refl w6.heap.size w6).drew | with_reducible exact bal (Below.refl w6.heap.size w6) _ | with_reducible exact bal (Below.refl w6.heap.size w6).drew _ | with_reducible exact (bal (Below.refl w6.heap.size w6) _).drew) hb7'); have hb7 : Below W.heap.size W w7 := (bt hb6 h67); have g7 : w7.cell? ⟨N, 0, none⟩ = some (.slice sa xs.length sc) := (hb7.cell (p := ⟨N, 0, none⟩) q4).trans q1; have s7 := h67.size; (first | (have kf := (fc_new w6 0 0).at hb7' (by simp); obtain ⟨y1, y2, y3, y4⟩ : Fc w6.heap.size 0 0 w7 := kf) | (have hmk := l1; clear hmk; obtain ⟨y1, y2, y3, y4⟩ : Fc w5.heap.size 0 0 w7 := (Fc.at ⟨l1, l2, l3, l4⟩ h67 (fc_lt ⟨l1, l2, l3, l4⟩))) | (have hmk := l1; clear hmk; obtain ⟨y1, y2, y3, y4⟩ : Fc (N + 1) 0 0 w7 := (Fc.at ⟨l1, l2, l3, l4⟩ h67 (fc_lt ⟨l1, l2, l3, l4⟩))) | skip))
              | (have hmark := hb5; clear hmark; go_at_call 32; refine (then_any B B (.slice a3 gs.length c3) _ gs xs _ ?_ ?_ ?_ ?_ (G xs) ?_).mono ?_; (exact Nat.le_trans q3 ((by first | with_reducible exact hb5 | with_reducible exact hb5.drew | with_reducible exact bal hb5 _ | with_reducible exact bal hb5.drew _ | with_reducible exact (bal hb5 _).drew) : Below W.heap.size W _).size); (exact Nat.le_trans q3 ((by first | with_reducible exact hb5 | with_reducible exact hb5.drew | with_reducible exact bal hb5 _ | with_reducible exact bal hb5.drew _ | with_reducible exact (bal hb5 _).drew) : Below W.heap.size W _).size); (exact H3.out.at hB (bt GW (by first | with_reducible exact hb5 | with_reducible exact hb5.drew | with_reducible exact bal hb5 _ | with_reducible exact bal hb5.drew _ | with_reducible exact (bal hb5 _).drew))); (exact HIW.out.at q3 (by first | with_reducible exact hb5 | with_reducible exact hb5.drew | with_reducible exact bal hb5 _ | with_reducible exact bal hb5.drew _ | with_reducible exact (bal hb5 _).drew)); (rw [HG.out]); rintro e w6 ⟨tv2, x2, rfl, hr2, hp2, hb6'⟩; have h56 : Below w5.heap.size w5 w6 := (bt (by first | with_reducible exact (Below.refl w5.heap.size w5) | with_reducible exact (Below.refl w5.heap.size w5).drew | with_reducible exact bal (Below.refl w5.heap.size w5) _ | with_reducible exact bal (Below.refl w5.heap.size w5).drew _ | with_reducible exact (bal (Below.refl w5.heap.size w5) _).drew) hb6'); have hb6 : Below W.heap.size W w6 := (bt hb5 h56); have g6 : w6.cell? ⟨N, 0, none⟩ = some (.slice sa xs.length sc) := (hb6.cell (p := ⟨N, 0, none⟩) q4).trans q1; have s6 := h56.size; have HX1 : Hid (Parts w6 w6.heap.size tv1 x1) := (hp1.at (Nat.le_refl _) h56).mono h56.size; have HX2 : Hid (Parts w6 w6.heap.size tv2 x2) := hp2; have HX3 : Hid (farT (rd x1) (rd x2) = (n3, d3, e3)) := (by rw [hr1, hr2]; exact HF3.out); (first | (have kf := (fc_new w5 0 0).at hb6' (by simp); obtain ⟨l1, l2, l3, l4⟩ : Fc w5.heap.size 0 0 w6 := kf) | (have hmk := k1; clear hmk; obtain ⟨l1, l2, l3, l4⟩ : Fc (N + 1) 0 0 w6 := (Fc.at ⟨k1, k2, k3, k4⟩ h56 (fc_lt ⟨k1, k2, k3, k4⟩))) | skip); clear hr1 hr2 hp1 hp2)
              | (go_at_call 32; refine (then_any B B (.slice a2 fs.length c2) _ fs xs _ ?_ ?_ ?_ ?_ (F xs) ?_).mono ?_; (exact Nat.le_trans q3 ((by first | with_reducible exact (Below.refl W.heap.size W) | with_reducible exact (Below.refl W.heap.size W).drew | with_reducible exact bal (Below.refl W.heap.size W) _ | with_reducible exact bal (Below.refl W.heap.size W).drew _ | with_reducible exact (bal (Below.refl W.heap.size W) _).drew) : Below W.heap.size W _).size); (exact Nat.le_trans q3 ((by first | with_reducible exact (Below.refl W.heap.size W) | with_reducible exact (Below.refl W.heap.size W).drew | with_reducible exact bal (Below.refl W.heap.size W) _ | with_reducible exact bal (Below.refl W.heap.size W).drew _ | with_reducible exact (bal (Below.refl W.heap.size W) _).drew) : Below W.heap.size W _).size); (exact H2.out.at hB (bt GW (by first | with_reducible exact (Below.refl W.heap.size W) | with_reducible exact (Below.refl W.heap.size W).drew | with_reducible exact bal (Below.refl W.heap.size W) _ | with_reducible exact bal (Below.refl W.heap.size W).drew _ | with_reducible exact (bal (Below.refl W.heap.size W) _).drew))); (exact HIW.out.at q3 (by first | with_reducible exact (Below.refl W.heap.size W) | with_reducible exact (Below.refl W.heap.size W).drew | with_reducible exact bal (Below.refl W.heap.size W) _ | with_reducible exact bal (Below.refl W.heap.size W).drew _ | with_reducible exact (bal (Below.refl W.heap.size W) _).drew)); (rw [HF.out]); rintro e w5 ⟨tv1, x1, rfl, hr1, hp1, hb5'⟩; have hb5 : Below W.heap.size W w5 := (bt (by first | with_reducible exact (Below.refl W.heap.size W) | with_reducible exact (Below.refl W.heap.size W).drew | with_reducible exact bal (Below.refl W.heap.size W) _ | with_reducible exact bal (Below.refl W.heap.size W).drew _ | with_reducible exact (bal (Below.refl W.heap.size W) _).drew) hb5'); have g5 : w5.cell? ⟨N, 0, none⟩ = some (.slice sa xs.length sc) := (hb5.cell (p := ⟨N, 0, none⟩) q4).trans q1; have s5 := hb5.size; (first | (have kf := (fc_new W.drew 0 0).at hb5' (by simp); obtain ⟨k1, k2, k3, k4⟩ : Fc (N + 1) 0 0 w5 := (by rw [← q2]; exact kf)) | (have kf := (fc_new W 0 0).at hb5' (by simp); obtain ⟨k1, k2, k3, k4⟩ : Fc (N + 1) 0 0 w5 := (by rw [← q2]; exact kf)) | skip)))
          all_goals (go_wp2; go_meet; first | exact ⟨_, rfl, rfl, fc_new _ _ _, by omega, by simp, bal hb7 _⟩ | exact ⟨_, rfl, rfl, Fc.set ⟨y1, y2, y3, y4⟩ _ _, by omega, fc_lt (Fc.set ⟨y1, y2, y3, y4⟩ _ _), bs (bs hb7 (by dsimp only; omega) _) (by dsimp only; omega) _⟩)
        case rest => as_aux_lemma =>
          obtain ⟨A, rfl, rfl, hA, hA1, hA2, hbc⟩ := hcut
          have Gc : Below w.heap.size w wc := bt GW hbc
          have HAc : Hid (Fc A n3 d3 wc) := hA
          have hbc2 : Below wr.heap.size wr wc := bt HBW.out hbc
          have HRc : Hid (Fc R n1 d1 wc) := HY.out.2.1.at hbc2 (by omega)
          have HMc : Hid (Fc M V E wc) := HY.out.2.2.at hbc2 (by omega)
          have hMc : M < wc.heap.size := by have := hbc2.size; omega
          clear hA hbc hbc2 GW q1 q2 q3 q4 hN
          by_cases z3 : e3 = 0
          · subst z3
            have HYs := HY.out.1.sml
            have hfb := far_bd HF3.out
            obtain ⟨x1, x2, _, _⟩ := HMc.out
            obtain ⟨x5, x6, _, _⟩ := HAc.out
            by_cases hm : V * d3 ≤ n3 * E
            · have km := fun W => refMost_any V E n3 d3 HYs.1 HYs.2.1 HYs.2.2.1 HYs.2.2.2 hfb.1 hfb.2.1 hfb.2.2.1 hfb.2.2.2 true (decide_eq_true hm) W
              have HYn : Hid (By F G (rd ts) (i + 1) n3 d3) := HY.out.1.more HS.out HF3.out hm
              clear hm
              go_wp2_with fail
              refine (km _).mono ?_
              rintro e w8 ⟨rfl, hb8⟩
              clear km x1 x2 x5 x6
              have HM8 : Hid (Fc M V E w8) := HMc.out.at hb8 hMc
              have HR8 : Hid (Fc R n1 d1 w8) := HRc.out.at hb8 (by omega)
              obtain ⟨x1, x2, x3, x4⟩ := HM8.out
              obtain ⟨x5, x6, _, _⟩ := HAc.out.at hb8 hA2
              have G8 : Below w.heap.size w w8 := bt Gc hb8
              have s8 := hb8.size
              go_wp2
              go_roundw
              case rel => exact ⟨i + 1, n3, d3, by go_num, h1, ⟨HYn.out, (HR8.out.beside (by omega) _ _).beside (by omega) _ _, HM8.out.set _ _⟩, fc_lt (HM8.out.set _ _), bs (bs G8 (by dsimp only; omega) _) (by dsimp only; omega) _⟩
              case measure => simp [intOf]; omega
            · have km := fun W => refMost_any V E n3 d3 HYs.1 HYs.2.1 HYs.2.2.1 HYs.2.2.2 hfb.1 hfb.2.1 hfb.2.2.1 hfb.2.2.2 false (decide_eq_false hm) W
              have HYn : Hid (By F G (rd ts) (i + 1) V E) := HY.out.1.less HS.out HF3.out hm
              clear hm
              go_wp2_with fail
              refine (km _).mono ?_
              rintro e w8 ⟨rfl, hb8⟩
              clear km x1 x2 x5 x6
              have G8 : Below w.heap.size w w8 := bt Gc hb8
              have s8 := hb8.size
              go_wp2
              go_roundw
              case rel => exact ⟨i + 1, V, E, by go_num, h1, ⟨HYn.out, HRc.out.at hb8 (by omega), HMc.out.at hb8 hMc⟩, by omega, G8⟩
              case measure => simp [intOf]; omega
          · have z3' : (e3 == 0) = false := by simpa using z3
            go_wp2
            go_ret
            exact ⟨rfl, Gc⟩
      · have hlen : (rd ts).length ≤ i := by rw [rd_len]; omega
        have hdis := far_told HF1.out
        have hall : ∀ p ∈ rd ts, Dis (F p.1) ∧ Dis (G p.1) := fun p hp => by
          have := HY.out.1.2.2.2.2 p (by rw [List.take_of_length_le hlen]; exact hp)
          exact ⟨this.1, this.2.1⟩
        obtain ⟨T1, hT1⟩ : ∃ T, T = fun x => tagL (idx (rd ts) x) (F x) := ⟨_, rfl⟩
        obtain ⟨T2, hT2⟩ : ∃ T, T = fun x => tagL (idx (rd ts) x) (G x) := ⟨_, rfl⟩
        have HT1 : Hid (T1 = fun x => tagL (idx (rd ts) x) (F x)) := hT1
        have HT2 : Hid (T2 = fun x => tagL (idx (rd ts) x) (G x)) := hT2
        have HAL : Hid (Dis (rd ts) ∧ ∀ p ∈ rd ts, Dis (F p.1) ∧ Dis (G p.1)) := ⟨hdis.1, hall⟩
        have HRM : Hid (Fc R n1 d1 wr ∧ Fc M V E wr) := HY.out.2
        have HBy : Hid (By F G (rd ts) i V E ∧ (rd ts).length ≤ i) := ⟨HY.out.1, hlen⟩
        clear hT1 hT2 hdis hall hlen
        go_wp2_with fail
        refine (keyed_any B (.slice a0 ts.length c0) (.slice a2 fs.length c2) ts fs wr (Nat.le_trans hB bw.size) (H0.out.at hB bw) (H2.out.at hB bw) HAL.out.1 F HF.out (fun p hp => (HAL.out.2 p hp).1) T1 HT1.out).mono ?_
        rintro e w5 ⟨kv, hs1, rfl, hh1, hk1, hb5⟩
        have HK1 : Hid (Hst T1 (rd ts) hs1 ts.length ∧ Fws w5 w5.heap.size kv hs1) := ⟨hh1, hk1⟩
        obtain ⟨ka, kc, rfl, _⟩ := hk1
        obtain ⟨⟨lx, ex⟩, HX⟩ : ∃ x, Hid (bindT (rd ts) (thenT (fd hs1)) = x) := ⟨_, rfl⟩
        have G5 : Below w.heap.size w w5 := bt bw hb5
        clear hh1
        go_wp2_with fail
        refine (pbind_any w5.heap.size _ _ ts hs1 w5 (Nat.le_refl _) ((H0.out.at hB G5).mono (Nat.le_trans hB G5.size)) HK1.out.2 lx ex HX.out).mono ?_
        rintro e w6 ⟨xv, xu, rfl, hxr, hxo, hb6, _⟩
        obtain ⟨xa, xc, rfl⟩ := hxo.slice
        have HXU : Hid (rd xu = lx ∧ Parts w6 w6.heap.size (.slice xa xu.length xc) xu) := ⟨hxr, hxo.parts⟩
        have h56 : Below wr.heap.size wr w6 := bt hb5 hb6
        have G6 : Below w.heap.size w w6 := bt bw h56
        clear hxr hxo hb5 hb6 G5
        go_wp2_with fail
        refine (keyed_any B (.slice a0 ts.length c0) (.slice a3 gs.length c3) ts gs w6 (Nat.le_trans hB G6.size) (H0.out.at hB G6) (H3.out.at hB G6) HAL.out.1 G HG.out (fun p hp => (HAL.out.2 p hp).2) T2 HT2.out).mono ?_
        rintro e w7 ⟨kv2, hs2, rfl, hh2, hk2, hb7⟩
        have HK2 : Hid (Hst T2 (rd ts) hs2 ts.length ∧ Fws w7 w7.heap.size kv2 hs2) := ⟨hh2, hk2⟩
        obtain ⟨ka2, kc2, rfl, _⟩ := hk2
        obtain ⟨⟨ly, ey⟩, HYB⟩ : ∃ x, Hid (bindT (rd us) (thenT (fd hs2)) = x) := ⟨_, rfl⟩
        have G7 : Below w.heap.size w w7 := bt G6 hb7
        clear hh2
        go_wp2_with fail
        refine (pbind_any w7.heap.size _ _ us hs2 w7 (Nat.le_refl _) ((H1.out.at hB G7).mono (Nat.le_trans hB G7.size)) HK2.out.2 ly ey HYB.out).mono ?_
        rintro e w8 ⟨yv, yu, rfl, hyr, hyo, hb8, _⟩
        obtain ⟨ya, yc, rfl⟩ := hyo.slice
        have h68 : Below w6.heap.size w6 w8 := bt hb7 hb8
        have HYU : Hid (rd yu = ly ∧ Parts w8 w8.heap.size (.slice ya yu.length yc) yu) := ⟨hyr, hyo.parts⟩
        have HXU8 : Hid (Parts w8 w8.heap.size (.slice xa xu.length xc) xu) := (HXU.out.2.at (Nat.le_refl _) h68).mono h68.size
        have h58 : Below wr.heap.size wr w8 := bt h56 h68
        have G8 : Below w.heap.size w w8 := bt bw h58
        have HR8 : Hid (Fc R n1 d1 w8 ∧ Fc M V E w8) := ⟨HRM.out.1.at h58 (by omega), HRM.out.2.at h58 hMl⟩
        have hM8 : M < w8.heap.size := by have := h58.size; omega
        clear hyr hyo hb7 hb8 h56 h68 h58 G6 G7 HRM
        by_cases zx : ex = 0
        · subst zx
          by_cases zy : ey = 0
          · subst zy
            obtain ⟨⟨n4, d4, e4⟩, HF4⟩ : ∃ x, Hid (farT lx ly = x) := ⟨_, rfl⟩
            obtain ⟨⟨n5, d5, e5⟩, HT5⟩ : ∃ x, Hid (Rt.timesT n1 d1 V E = x) := ⟨_, rfl⟩
            have hcf := compose_far (F := F) (G := G) HF1.out HBy.out.1 HBy.out.2 (fun p hp => by rw [HK1.out.1.all (by rw [rd_len]; exact Nat.le_refl _) hp, HT1.out]) (fun p hp => by rw [HK2.out.1.all (by rw [rd_len]; exact Nat.le_refl _) hp, HT2.out]) HX.out HYB.out HF4.out HT5.out
            have km := fun W => most_any n4 d4 e4 n5 d5 e5 (far_bd HF4.out) (times_bd HT5.out) hcf.2 W
            have hne6 : (e4 == 6) = false := by simpa using hcf.1
            have hne7 : ¬ e4 = 6 := hcf.1
            clear hcf
            go_wp2_with fail
            refine (far_any w8.heap.size _ _ xu yu w8 (Nat.le_refl _) HXU8.out HYU.out.2 n4 d4 e4 (by rw [HXU.out.1, HYU.out.1]; exact HF4.out)).mono ?_
            rintro e w9 ⟨rfl, hb9⟩
            go_upto_region 21 with fail
            obtain ⟨W9, hW9⟩ : ∃ W, w9.alloc (.cells #[.int .i64 n4, .int .i64 d4] 34) = W := ⟨_, rfl⟩
            obtain ⟨S, hS⟩ : ∃ S, w9.heap.size = S := ⟨_, rfl⟩
            have h89 : Below w8.heap.size w8 W9 := hW9 ▸ bal hb9 _
            have HS9 : Hid (Fc S n4 d4 W9) := by show Fc S n4 d4 W9; rw [← hW9, ← hS]; exact fc_new _ _ _
            have hS9 : S < W9.heap.size := fc_lt HS9.out
            have G9 : Below w.heap.size w W9 := bt G8 h89
            obtain ⟨x1, x2, _, _⟩ := HR8.out.1.at h89 (by omega)
            obtain ⟨x5, x6, _, _⟩ := HR8.out.2.at h89 hM8
            rw [hW9, hS]
            clear hW9 hS hb9 h89 G8 HR8
            go_wp2_with fail
            refine (refTimes_any n1 d1 V E n5 d5 e5 HT5.out W9).mono ?_
            rintro e w10 ⟨rfl, hb10⟩
            clear x1 x2 x5 x6
            go_upto_region 22 with fail
            obtain ⟨W10, hW10⟩ : ∃ W, w10.alloc (.cells #[.int .i64 n5, .int .i64 d5] 34) = W := ⟨_, rfl⟩
            have h910 : Below W9.heap.size W9 W10 := hW10 ▸ bal hb10 _
            obtain ⟨y1, y2, _, _⟩ : Fc w10.heap.size n5 d5 W10 := hW10 ▸ fc_new _ _ _
            obtain ⟨y5, y6, _, _⟩ := HS9.out.at h910 hS9
            have G10 : Below w.heap.size w W10 := bt G9 h910
            rw [hW10]
            clear hW10 hb10 h910 G9
            go_wp2_with fail
            refine (km _).mono ?_
            rintro e w11 ⟨rfl, hb11⟩
            clear km
            go_wp2
            go_ret
            have hv : (e4 != 6) = true := by simpa using hne7
            exact ⟨by first | rfl | (show Ending.returned (.bool (e4 != 6)) = _; rw [hv]), bt G10 hb11⟩
          · have zy' : (ey == 0) = false := by simpa using zy
            go_wp2
            go_ret
            exact ⟨rfl, G8⟩
        · have zx' : (ex == 0) = false := by simpa using zx
          go_wp2
          go_ret
          exact ⟨rfl, G8⟩
  · have z1' : (e1 == 0) = false := by simpa using z1
    go_wp2
    go_ret
    exact ⟨rfl, G1⟩
end Go.Proofs.Ytdcdjjemndadaaa
