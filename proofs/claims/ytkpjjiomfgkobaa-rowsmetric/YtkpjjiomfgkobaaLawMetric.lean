import Derived.Test.YtkpjjiomfgkobaaPnw
import Derived.Test.YtkpjjiomfgkobaaMtr
namespace Go.Proofs.Ytkpjjiomfgkobaa
open Go.RowKit Go.Proofs.Ytkpjjiomfgkobaa.Ds

theorem alive_wro : wroE [(({ data := #[97] } : ByteArray), (2 : Int))] [] = 0 := by decide +kernel
set_option maxHeartbeats 1000000 in
theorem alive_any (w : World) : Calls Try.prog 20 #[] w fun e w' => e = .returned (.bool true) ∧ Below w.heap.size w w' := by
  obtain ⟨⟨ys, ey⟩, hys⟩ : ∃ q, Hid (cellsR [(({ data := #[97] } : ByteArray), (2 : Int))] (rr []) = q) := ⟨_, rfl⟩
  have h2 : ys.length = 2 ∧ ey = 0 := by
    have h := hys.out
    rw [show rr [] = [] from rfl, cellsR, if_pos alive_wro, Prod.mk.injEq] at h
    exact ⟨by rw [← h.1, celT_len]; decide, h.2.symm⟩
  obtain ⟨hy2, rfl⟩ := h2
  obtain ⟨W, hW⟩ : ∃ W, w.alloc (.cells #[.string { data := #[97] }, .int .i64 2] 47) = W := ⟨_, rfl⟩
  have hbW : Below w.heap.size w W := by rw [← hW]; exact ba _ _
  have hsW : W.heap.size = w.heap.size + 1 := by rw [← hW]; simp
  have hX : TwoB W w.heap.size (.string { data := #[97] }) (.int .i64 2) := by rw [← hW]; exact TwoB.new _ _ _ _ _ rfl
  have hc : Cols W W.heap.size (.slice (some ⟨w.heap.size, 0, none⟩) 1 1) [(({ data := #[97] } : ByteArray), (2 : Int))] := by
    refine ⟨_, 1, rfl, Nat.le_refl _, by simp, fun x hx => ?_, fun _ => ⟨w.heap.size, 0, rfl, by omega, fun i x hx => ?_⟩⟩
    · obtain rfl := List.mem_singleton.1 hx; decide
    · cases i with
      | zero => simp at hx; subst hx; exact ⟨hX.c0, hX.c1⟩
      | succ i => simp at hx
  have kc := cells_any W.heap.size _ _ _ [] W (Nat.le_refl _) hc (rws_nil W W.heap.size) ys 0 hys.out
  go_enter Try.func20, Try.ntmps20
  go_wp2_with fail
  clear hW
  refine kc.mono ?_
  rintro e w1 ⟨v1, rfl, hI1, hb1⟩
  obtain ⟨b1, d1, e1, _, _⟩ := (hI1 w.heap.size (by omega)).slice
  rw [hy2] at e1
  subst e1
  have hbw : Below w.heap.size w w1 := bt hbW hb1
  clear kc hI1
  go_wp2
  go_ret
  exact ⟨rfl, hbw⟩

set_option maxRecDepth 100000 in
set_option maxHeartbeats 8000000 in
theorem rowsMetric_walk (B : Nat) (cu ru cv rv cx rx : Value) (l m k : List Col) (ts us vs : List Rw) (w : World) (hB : B ≤ w.heap.size) (hp : Cols w B cu l) (hq : Rws w B ru ts) (hp2 : Cols w B cv m) (hq2 : Rws w B rv us) (hp3 : Cols w B cx k) (hq3 : Rws w B rx vs) :
    Calls Try.prog 5 #[.agg #[cu, ru], .agg #[cv, rv], .agg #[cx, rx]] w fun e w' => e = .returned (.bool true) ∧ Below w.heap.size w w' := by
  have HP : Hid (Cols w B cu l) := hp
  have HQ : Hid (Rws w B ru ts) := hq
  have HP2 : Hid (Cols w B cv m) := hp2
  have HQ2 : Hid (Rws w B rv us) := hq2
  have HP3 : Hid (Cols w B cx k) := hp3
  have HQ3 : Hid (Rws w B rx vs) := hq3
  obtain ⟨a, c, rfl, hc, hl⟩ := hp.slice
  obtain ⟨a2, c2, rfl, hc2, hl2⟩ := hq.slice
  obtain ⟨a3, c3, rfl, hc3, hl3⟩ := hp2.slice
  obtain ⟨a4, c4, rfl, hc4, hl4⟩ := hq2.slice
  obtain ⟨a5, c5, rfl, hc5, hl5⟩ := hp3.slice
  obtain ⟨a6, c6, rfl, hc6, hl6⟩ := hq3.slice
  obtain ⟨W, hW⟩ : ∃ W, ((w.alloc (.cells #[.slice a l.length c, .slice a2 ts.length c2] 25)).alloc (.cells #[.slice a3 m.length c3, .slice a4 us.length c4] 25)).alloc (.cells #[.slice a5 k.length c5, .slice a6 vs.length c6] 25) = W := ⟨_, rfl⟩
  have hbW : Below w.heap.size w W := by rw [← hW]; exact bal (bal (ba _ _) _) _
  have hsW : W.heap.size = w.heap.size + 3 := by rw [← hW]; simp
  have p0 : W.cell? ⟨w.heap.size, 0, none⟩ = some (.slice a l.length c) := by rw [← hW]; simp [go_sem]
  have p1 : W.cell? ⟨w.heap.size, 1, none⟩ = some (.slice a2 ts.length c2) := by rw [← hW]; simp [go_sem]
  have p2 : W.cell? ⟨w.heap.size + 1, 0, none⟩ = some (.slice a3 m.length c3) := by rw [← hW]; simp [go_sem]
  have p3 : W.cell? ⟨w.heap.size + 1, 1, none⟩ = some (.slice a4 us.length c4) := by rw [← hW]; simp [go_sem]
  have p4 : W.cell? ⟨w.heap.size + 1 + 1, 0, none⟩ = some (.slice a5 k.length c5) := by rw [← hW]; simp [go_sem]
  have p5 : W.cell? ⟨w.heap.size + 1 + 1, 1, none⟩ = some (.slice a6 vs.length c6) := by rw [← hW]; simp [go_sem]
  have HCE : Hid (∀ V, Below W.heap.size W V → V.cell? ⟨w.heap.size, 0, none⟩ = some (.slice a l.length c) ∧ V.cell? ⟨w.heap.size, 1, none⟩ = some (.slice a2 ts.length c2) ∧ V.cell? ⟨w.heap.size + 1, 0, none⟩ = some (.slice a3 m.length c3) ∧ V.cell? ⟨w.heap.size + 1, 1, none⟩ = some (.slice a4 us.length c4) ∧ V.cell? ⟨w.heap.size + 1 + 1, 0, none⟩ = some (.slice a5 k.length c5) ∧ V.cell? ⟨w.heap.size + 1 + 1, 1, none⟩ = some (.slice a6 vs.length c6)) := fun V h =>
    ⟨(h.cell (p := ⟨w.heap.size, 0, none⟩) (by show w.heap.size < _; omega)).trans p0, (h.cell (p := ⟨w.heap.size, 1, none⟩) (by show w.heap.size < _; omega)).trans p1, (h.cell (p := ⟨w.heap.size + 1, 0, none⟩) (by show w.heap.size + 1 < _; omega)).trans p2, (h.cell (p := ⟨w.heap.size + 1, 1, none⟩) (by show w.heap.size + 1 < _; omega)).trans p3, (h.cell (p := ⟨w.heap.size + 1 + 1, 0, none⟩) (by show w.heap.size + 1 + 1 < _; omega)).trans p4, (h.cell (p := ⟨w.heap.size + 1 + 1, 1, none⟩) (by show w.heap.size + 1 + 1 < _; omega)).trans p5⟩
  obtain ⟨x, hx⟩ : ∃ q, Hid (apaT l m (rr ts) (rr us) = q) := ⟨_, rfl⟩
  obtain ⟨ex, hex⟩ : ∃ q, Hid (apaE l m (rr ts) (rr us) = q) := ⟨_, rfl⟩
  obtain ⟨ew, hew⟩ : ∃ q, Hid (apaE m l (rr us) (rr ts) = q) := ⟨_, rfl⟩
  have HEE : Hid (ex = 0 ↔ ew = 0) := by rw [Hid, ← hex.out, ← hew.out]; exact apaE_swap
  have hxb : 0 ≤ x ∧ x ≤ 8192 := by rw [← hx.out]; exact apaT_bd _ _ _ _
  clear p0 p1 p2 p3 p4 p5
  go_enter Try.func5, Try.ntmps5
  go_wp2_with fail
  clear hW
  refine (alive_any W).mono ?_
  rintro e w1 ⟨rfl, hb1⟩
  have hbw1 : Below w.heap.size w w1 := bt hbW hb1
  obtain ⟨q0, q1, q2, q3, q4, q5⟩ := HCE.out w1 hb1
  have kc := apart_any B _ _ _ _ l m ts us w1 (Nat.le_trans hB hbw1.size) (HP.out.at hB hbw1) (HQ.out.at hB hbw1) (HP2.out.at hB hbw1) (HQ2.out.at hB hbw1) x ex hx.out hex.out
  go_wp2_with fail
  refine kc.mono ?_
  rintro e w2 ⟨rfl, hb2⟩
  have G2 : Below W.heap.size W w2 := bt hb1 hb2
  have hbw2 : Below w.heap.size w w2 := bt hbW G2
  clear kc q0 q1 q2 q3 q4 q5 hb2
  obtain ⟨q0, q1, q2, q3, q4, q5⟩ := HCE.out w2 G2
  have kc := apart_any B _ _ _ _ m l us ts w2 (Nat.le_trans hB hbw2.size) (HP2.out.at hB hbw2) (HQ2.out.at hB hbw2) (HP.out.at hB hbw2) (HQ.out.at hB hbw2) x ew (by rw [apaT_swap]; exact hx.out) hew.out
  go_wp2_with fail
  refine kc.mono ?_
  rintro e w3 ⟨rfl, hb3⟩
  have G3 : Below W.heap.size W w3 := bt G2 hb3
  have hbw3 : Below w.heap.size w w3 := bt hbW G3
  clear kc q0 q1 q2 q3 q4 q5 hb3
  obtain ⟨q0, q1, q2, q3, q4, q5⟩ := HCE.out w3 G3
  by_cases h0 : ex = 0
  · obtain rfl : ew = 0 := HEE.out.1 h0
    subst h0
    obtain ⟨hwa, hwb, hlm⟩ := apaE_is hex.out
    have HWA : Hid (wroE l (rr ts) = 0) := hwa
    have HWB : Hid (wroE l (rr us) = 0) := by rw [hlm]; exact hwb
    have HLM : Hid (l = m) := hlm
    obtain ⟨ca, hca⟩ : ∃ q, Hid (celT l (rr ts) = q) := ⟨_, rfl⟩
    obtain ⟨cb, hcb⟩ : ∃ q, Hid (celT m (rr us) = q) := ⟨_, rfl⟩
    have hlen : Hid (ca.length = cb.length ∧ ca.length = prd l) := by rw [Hid, ← hca.out, ← hcb.out, celT_len, celT_len, hlm]; exact ⟨rfl, rfl⟩
    have HXS : Hid (apaS ca cb = x) := by rw [Hid, ← hca.out, ← hcb.out, ← hx.out, apaT, if_pos hex.out]
    have kc := cells_any B _ _ l ts w3 (Nat.le_trans hB hbw3.size) (HP.out.at hB hbw3) (HQ.out.at hB hbw3) ca 0 (by rw [cellsR, if_pos hwa, hca.out])
    clear hwa hwb hlm
    go_wp2_with fail
    refine kc.mono ?_
    rintro e w4 ⟨v4, rfl, hI4, hb4⟩
    have G4 : Below W.heap.size W w4 := bt G3 hb4
    have hbw4 : Below w.heap.size w w4 := bt hbW G4
    have HI4 : Hid (Ints w4 w4.heap.size w.heap.size v4 ca) := hI4 w.heap.size (by have := G3.size; omega)
    obtain ⟨b4, d4, rfl, _, _⟩ := HI4.out.slice
    clear kc q0 q1 q2 q3 q4 q5 hb4 hI4
    obtain ⟨q0, q1, q2, q3, q4, q5⟩ := HCE.out w4 G4
    have kc := cells_any B _ _ m us w4 (Nat.le_trans hB hbw4.size) (HP2.out.at hB hbw4) (HQ2.out.at hB hbw4) cb 0 (by rw [cellsR, ← HLM.out, if_pos HWB.out, HLM.out, hcb.out])
    go_wp2_with fail
    refine kc.mono ?_
    rintro e w5 ⟨v5, rfl, hI5, hb5⟩
    have G5 : Below W.heap.size W w5 := bt G4 hb5
    have hbw5 : Below w.heap.size w w5 := bt hbW G5
    have HI5 : Hid (Ints w5 w5.heap.size w.heap.size v5 cb) := hI5 w.heap.size (by have := G4.size; omega)
    have HI4' : Hid (Ints w5 w5.heap.size w.heap.size (.slice b4 ca.length d4) ca) := HI4.out.at2 hb5
    obtain ⟨b5, d5, rfl, _, _⟩ := HI5.out.slice
    clear kc q0 q1 q2 q3 q4 q5 hb5 hI5
    obtain ⟨cm, hcm⟩ : ∃ q, Hid (cmpT ca cb = q) := ⟨_, rfl⟩
    have HCZ : Hid (x = 0 ↔ cm = 0) := by
      rw [Hid, ← HXS.out, ← hcm.out, apaS_zero hlen.out.1, cmpT_zero]
    have hcz : (x == 0) = (cm == 0) := by
      rw [Bool.eq_iff_iff, beq_iff_eq, beq_iff_eq]; exact HCZ.out
    have hx0 : ¬ x < 0 := by omega
    obtain ⟨bx, hbx⟩ : ∃ bx : Bool, (x == 0) = bx := ⟨_, rfl⟩
    have hbc : (cm == 0) = bx := by rw [← hcz, hbx]
    have kcm := fun V (h1 : Ints V w5.heap.size w.heap.size (.slice b4 ca.length d4) ca) (h2 : Ints V w5.heap.size w.heap.size (.slice b5 cb.length d5) cb) => refCompare_any w5.heap.size w.heap.size w.heap.size _ _ ca cb V h1 h2 cm hcm.out
    clear hcz
    go_wp2_with fail
    refine (kcm w5 HI4'.out HI5.out).mono ?_
    rintro e w6 ⟨rfl, dq, rfl⟩
    have G6 : Below W.heap.size W (w5.drewN dq) := bt G5 (bdr _ _)
    have hbw6 : Below w.heap.size w (w5.drewN dq) := bt hbW G6
    obtain ⟨w6, hw6⟩ : ∃ w6, w5.drewN dq = w6 := ⟨_, rfl⟩
    rw [hw6] at G6 hbw6 ⊢
    obtain ⟨q0, q1, q2, q3, q4, q5⟩ := HCE.out w6 G6
    obtain ⟨C, hC⟩ : ∃ q, Hid (neaT l (rr ts) = q) := ⟨_, rfl⟩
    have kc := pnear_any B _ _ l ts w6 (Nat.le_trans hB hbw6.size) (HP.out.at hB hbw6) (HQ.out.at hB hbw6) C hC.out
    clear kcm hw6
    go_wp2_with fail
    refine kc.mono ?_
    rintro e w7 ⟨lv, tb, rfl, hT7, hM7, hb7⟩
    have G7 : Below W.heap.size W w7 := bt G6 hb7
    have hbw7 : Below w.heap.size w w7 := bt hbW G7
    have HT7 : Hid (Tbs w7 w7.heap.size lv tb) := hT7
    obtain ⟨la, lc, rfl, _, hlen7⟩ := hT7.slice
    obtain ⟨S, hS⟩ : ∃ q, Hid (nbL ca (decide ((rr ts).length < 4096)) (prd l) = q) := ⟨_, rfl⟩
    have HM7 : Hid (tb.map tc = S.map (tabOf l)) := by rw [Hid, hM7, ← hC.out, neaT, if_pos HWA.out, hca.out, hS.out]
    have HSC : Hid (S.count cb = if x = 1 then 1 else 0) := by
      rw [Hid, ← hS.out, ← hca.out, ← hcb.out, ← HLM.out, near_count HWA.out HWB.out, hca.out, HLM.out, hcb.out, HXS.out]
    have HNO : Hid (∀ xs ∈ S, tabOf l xs = (l, froR (allT l) xs) ∧ wroE l (froR (allT l) xs) = 0 ∧ celT l (froR (allT l) xs) = xs ∧ apaS ca xs = 1 ∧ xs.length = prd l) := by
      intro xs hxs
      rw [← hS.out, ← hca.out] at hxs
      have h := near_ok HWA.out hxs
      rw [hca.out] at h
      exact h
    have hsl : Hid (S.length = tb.length ∧ tb.length ≤ 8192) := by
      have h1 := congrArg List.length HM7.out
      have h2 := nbL_count ca (decide ((rr ts).length < 4096)) (prd l)
      have h3 := (colE_ok (wroE_ok HWA.out).1).2.2.2.1
      rw [hS.out] at h2
      simp at h1
      exact ⟨h1.symm, by omega⟩
    clear kc q0 q1 q2 q3 q4 q5 hT7 hM7 hb7
    go_wp2
    go_loopw [15, 88] (fun f s wr => ∃ i q : Nat, f = .int .i64 (q : Int) ∧ s = .int .i64 (i : Int) ∧ i ≤ tb.length ∧ q ≤ i ∧ Hid ((S.take i).count cb = q) ∧ Below w7.heap.size w7 wr) (fun _ s _ => tb.length - (intOf s).toNat)
    case atStart => exact ⟨0, 0, rfl, rfl, Nat.zero_le _, Nat.le_refl _, by simp [Hid], Below.refl _ _⟩
    case round =>
      obtain ⟨i, q, rfl, rfl, hi, hqi, HF, hbl⟩ := hrel
      have Gr : Below W.heap.size W wr := bt G7 hbl
      have hi8 : i ≤ 8192 := by have := hsl.out.2; omega
      by_cases hi1 : i < tb.length
      · obtain ⟨b, o, t, ta, tn, sa, sn, rfl, hb, hgt, hcv, hrv, f1, f2, hok⟩ := HT7.out.get (Nat.le_refl _) hbl hi1
        obtain ⟨xs, hgx⟩ := get_lt (l := S) (i := i) (by have := hsl.out.1; omega)
        have hno := HNO.out xs (List.mem_of_getElem? hgx)
        have htc : tc t = tabOf l xs := by
          have h1 : (tb.map tc)[i]? = some (tc t) := by simp [hgt]
          rw [HM7.out] at h1
          simp [hgx] at h1
          exact h1.symm
        rw [hno.1] at htc
        simp only [tc, Prod.mk.injEq] at htc
        have HTL : Hid (t.l = l ∧ rr t.ts = froR (allT l) xs) := htc
        have HNX : Hid (wroE l (froR (allT l) xs) = 0 ∧ celT l (froR (allT l) xs) = xs ∧ apaS ca xs = 1 ∧ xs.length = prd l) := hno.2
        have HFN : Hid ((S.take (i + 1)).count cb = q + if xs = cb then 1 else 0) := by
          rw [Hid, List.take_add_one, hgx, List.count_append, HF.out]
          simp [List.count_singleton]
        have HOK : Hid (Cols wr w7.heap.size (.slice ta t.l.length tn) t.l ∧ Rws wr w7.heap.size (.slice sa t.ts.length sn) t.ts) := by rw [← hcv, ← hrv]; exact hok
        obtain ⟨W8, hW8⟩ : ∃ W8, wr.alloc (.cells #[.slice ta t.l.length tn, .slice sa t.ts.length sn] 25) = W8 := ⟨_, rfl⟩
        have hb8 : Below wr.heap.size wr W8 := by rw [← hW8]; exact ba _ _
        have hz8 : wr.heap.size < W8.heap.size := by rw [← hW8]; simp
        have HX8 : Hid (TwoB W8 wr.heap.size (.slice ta t.l.length tn) (.slice sa t.ts.length sn)) := by rw [← hW8]; exact TwoB.new _ _ _ _ _ rfl
        have G8 : Below W.heap.size W W8 := bt Gr hb8
        have hbw8 : Below w.heap.size w W8 := bt hbW G8
        have hsr := hbl.size
        obtain ⟨q0, q1, q2, q3, q4, q5⟩ := HCE.out W8 G8
        have x0 := HX8.out.c0
        have x1 := HX8.out.c1
        obtain ⟨mm, hmm⟩ : ∃ q, Hid (apaT m t.l (rr us) (rr t.ts) = q) := ⟨_, rfl⟩
        have kc := apart_any W8.heap.size _ _ (.slice ta t.l.length tn) (.slice sa t.ts.length sn) l t.l ts t.ts W8 (Nat.le_refl _) ((HP.out.at hB hbw8).mono (Nat.le_trans hB hbw8.size)) ((HQ.out.at hB hbw8).mono (Nat.le_trans hB hbw8.size)) ((HOK.out.1.at hsr hb8).mono (by omega)) ((HOK.out.2.at hsr hb8).mono (by omega)) 1 0 (by rw [HTL.out.1, HTL.out.2, apaT, if_pos (apaE_of HWA.out HNX.out.1), hca.out, HNX.out.2.1, HNX.out.2.2.1]) (by rw [HTL.out.1, HTL.out.2]; exact apaE_of HWA.out HNX.out.1)
        have HMZ : Hid (mm = 0 ↔ xs = cb) := by
          rw [Hid, ← hmm.out, HTL.out.1, HTL.out.2, ← HLM.out, apaT, if_pos (apaE_of HWB.out HNX.out.1), HNX.out.2.1, HLM.out, hcb.out, apaS_zero (by rw [HNX.out.2.2.2]; have := hlen.out; omega)]
          exact eq_comm
        have HE2 : Hid (apaE m t.l (rr us) (rr t.ts) = 0) := by rw [Hid, HTL.out.1, HTL.out.2, ← HLM.out]; exact apaE_of HWB.out HNX.out.1
        have HOK8 : Hid (Cols W8 W8.heap.size (.slice ta t.l.length tn) t.l ∧ Rws W8 W8.heap.size (.slice sa t.ts.length sn) t.ts) := ⟨(HOK.out.1.at hsr hb8).mono (by omega), (HOK.out.2.at hsr hb8).mono (by omega)⟩
        have hbl8 : Below w7.heap.size w7 W8 := bt hbl hb8
        clear hgt hgx hno htc hcv hrv hok hb8
        go_wp2_with fail
        clear hW8
        refine kc.mono ?_
        rintro e w9 ⟨rfl, hb9⟩
        have G9 : Below W.heap.size W w9 := bt G8 hb9
        have hbw9 : Below w.heap.size w w9 := bt hbW G9
        have hbl9 : Below w7.heap.size w7 w9 := bt hbl8 hb9
        have HX9 : Hid (TwoB w9 wr.heap.size (.slice ta t.l.length tn) (.slice sa t.ts.length sn)) := HX8.out.below hb9
        have HOK9 : Hid (Cols w9 w9.heap.size (.slice ta t.l.length tn) t.l ∧ Rws w9 w9.heap.size (.slice sa t.ts.length sn) t.ts) := ⟨(HOK8.out.1.at (Nat.le_refl _) hb9).mono hb9.size, (HOK8.out.2.at (Nat.le_refl _) hb9).mono hb9.size⟩
        clear kc q0 q1 q2 q3 q4 q5 x0 x1 hb9
        obtain ⟨q0, q1, q2, q3, q4, q5⟩ := HCE.out w9 G9
        have x0 := HX9.out.c0
        have x1 := HX9.out.c1
        have kc := apart_any w9.heap.size _ _ (.slice ta t.l.length tn) (.slice sa t.ts.length sn) m t.l us t.ts w9 (Nat.le_refl _) ((HP2.out.at hB hbw9).mono (Nat.le_trans hB hbw9.size)) ((HQ2.out.at hB hbw9).mono (Nat.le_trans hB hbw9.size)) HOK9.out.1 HOK9.out.2 mm 0 hmm.out HE2.out
        go_wp2_with fail
        refine kc.mono ?_
        rintro e w10 ⟨rfl, hb10⟩
        have hbl10 : Below w7.heap.size w7 w10 := bt hbl9 hb10
        clear kc q0 q1 q2 q3 q4 q5 x0 x1 hb10
        by_cases hm0 : mm = 0
        · have HFN2 : Hid ((S.take (i + 1)).count cb = q + 1) := by rw [Hid, HFN.out, if_pos (HMZ.out.1 hm0)]
          subst hm0
          go_wp2
          go_roundw
          case rel => exact ⟨i + 1, q + 1, by go_num, by go_num, hi1, by omega, HFN2, hbl10⟩
          case measure => simp [intOf]; omega
        · have HFN2 : Hid ((S.take (i + 1)).count cb = q) := by rw [Hid, HFN.out, if_neg (fun h => hm0 (HMZ.out.2 h))]; rfl
          have hm1 : (mm == 0) = false := by simpa using hm0
          go_wp2
          go_roundw
          case rel => exact ⟨i + 1, q, by go_num, by go_num, hi1, by omega, HFN2, hbl10⟩
          case measure => simp [intOf]; omega
      · have hq1 : q = if x = 1 then 1 else 0 := by
          have h := HF.out
          rw [List.take_of_length_le (by have := hsl.out.1; omega), HSC.out] at h
          exact h.symm
        obtain ⟨b1, hb1'⟩ : ∃ b1 : Bool, (x == 1) = b1 := ⟨_, rfl⟩
        have hb2 : ((q : Int) == 1) = b1 := by
          rw [← hb1', Bool.eq_iff_iff, beq_iff_eq, beq_iff_eq]
          split at hq1 <;> omega
        have hq2 : ¬ (1 : Int) < (q : Int) := by split at hq1 <;> omega
        have hq3 : decide ((1 : Int) < (q : Int)) = false := decide_eq_false hq2
        have hbwr : Below w.heap.size w wr := bt hbW Gr
        obtain ⟨q0, q1, q2, q3, q4, q5⟩ := HCE.out wr Gr
        obtain ⟨z, hz⟩ : ∃ q, Hid (apaT m k (rr us) (rr vs) = q) := ⟨_, rfl⟩
        obtain ⟨ez, hez⟩ : ∃ q, Hid (apaE m k (rr us) (rr vs) = q) := ⟨_, rfl⟩
        obtain ⟨v, hv⟩ : ∃ q, Hid (apaT l k (rr ts) (rr vs) = q) := ⟨_, rfl⟩
        obtain ⟨ev, hev⟩ : ∃ q, Hid (apaE l k (rr ts) (rr vs) = q) := ⟨_, rfl⟩
        have hzb : 0 ≤ z ∧ z ≤ 8192 := by rw [← hz.out]; exact apaT_bd _ _ _ _
        have kc := apart_any B _ _ _ _ m k us vs wr (Nat.le_trans hB hbwr.size) (HP2.out.at hB hbwr) (HQ2.out.at hB hbwr) (HP3.out.at hB hbwr) (HQ3.out.at hB hbwr) z ez hz.out hez.out
        have HQ1 : Hid (q = if x = 1 then 1 else 0) := hq1
        clear hq1
        go_wp2_with fail
        refine kc.mono ?_
        rintro e w11 ⟨rfl, hb11⟩
        have G11 : Below W.heap.size W w11 := bt Gr hb11
        have hbw11 : Below w.heap.size w w11 := bt hbW G11
        clear kc q0 q1 q2 q3 q4 q5 hb11
        obtain ⟨q0, q1, q2, q3, q4, q5⟩ := HCE.out w11 G11
        have kc := apart_any B _ _ _ _ l k ts vs w11 (Nat.le_trans hB hbw11.size) (HP.out.at hB hbw11) (HQ.out.at hB hbw11) (HP3.out.at hB hbw11) (HQ3.out.at hB hbw11) v ev hv.out hev.out
        go_wp2_with fail
        refine kc.mono ?_
        rintro e w12 ⟨rfl, hb12⟩
        have hbw12 : Below w.heap.size w w12 := bt hbw11 hb12
        clear kc q0 q1 q2 q3 q4 q5 hb12
        by_cases hez0 : ez = 0
        · obtain ⟨_, hwk, hmk⟩ := apaE_is (hez.out.trans hez0)
          have hlk : l = k := HLM.out.trans hmk
          have hev0 : ev = 0 := by rw [← hev.out, ← hlk]; exact apaE_of HWA.out (by rw [hlk]; exact hwk)
          have hvle : v ≤ x + z := by
            have e1 : v = apaS ca (celT k (rr vs)) := by rw [← hv.out, apaT, if_pos (hev.out.trans hev0), hca.out]
            have e2 : z = apaS cb (celT k (rr vs)) := by rw [← hz.out, apaT, if_pos (hez.out.trans hez0), hcb.out]
            rw [e1, e2, ← HXS.out]
            exact apaS_tri hlen.out.1 (by rw [celT_len, ← hlk, ← hlen.out.2]; exact hlen.out.1.symm)
          subst hez0
          subst hev0
          clear hwk hmk hlk
          go_wp2
          go_ret
          exact ⟨ret_b (by simp), hbw12⟩
        · have hz1 : (ez != 0) = true := by simpa using hez0
          go_wp2
          go_ret
          exact ⟨rfl, hbw12⟩
  · have hne : (ex != 0) = true := by simpa using h0
    have hnw : ¬ ew = 0 := fun h => h0 (HEE.out.2 h)
    have hex0 : (ex == 0) = false := by simpa using h0
    have hew0 : (ew == 0) = false := by simpa using hnw
    go_wp2
    go_ret
    exact ⟨rfl, hbw3⟩
end Go.Proofs.Ytkpjjiomfgkobaa
