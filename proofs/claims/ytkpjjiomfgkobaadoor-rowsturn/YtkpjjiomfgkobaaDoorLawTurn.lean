import Derived.Test.YtkpjjiomfgkobaaDoorRea
import Derived.Test.YtkpjjiomfgkobaaDoorPrt
import Derived.Test.YtkpjjiomfgkobaaDoorMtd
namespace Go.Proofs.YtkpjjiomfgkobaaDoor
open Go.RowKit Go.Proofs.YtkpjjiomfgkobaaDoor.Ds

theorem alive_wro : wroE [(({ data := #[97] } : ByteArray), (2 : Int))] [] = 0 := by decide +kernel
set_option maxHeartbeats 1000000 in
theorem alive_any (w : World) : Calls Tryd.prog 10 #[] w fun e w' => e = .returned (.bool true) ∧ Below w.heap.size w w' := by
  obtain ⟨⟨ys, ey⟩, hys⟩ : ∃ q, Hid (cellsR [(({ data := #[97] } : ByteArray), (2 : Int))] (rr []) = q) := ⟨_, rfl⟩
  have h2 : ys.length = 2 ∧ ey = 0 := by
    have h := hys.out
    rw [show rr [] = [] from rfl, cellsR, if_pos alive_wro, Prod.mk.injEq] at h
    exact ⟨by rw [← h.1, celT_len]; decide, h.2.symm⟩
  obtain ⟨hy2, rfl⟩ := h2
  obtain ⟨W, hW⟩ : ∃ W, w.alloc (.cells #[.string { data := #[97] }, .int .i64 2] 52) = W := ⟨_, rfl⟩
  have hbW : Below w.heap.size w W := by rw [← hW]; exact ba _ _
  have hsW : W.heap.size = w.heap.size + 1 := by rw [← hW]; simp
  have hX : TwoB W w.heap.size (.string { data := #[97] }) (.int .i64 2) := by rw [← hW]; exact TwoB.new _ _ _ _ _ rfl
  have hc : Cols W W.heap.size (.slice (some ⟨w.heap.size, 0, none⟩) 1 1) [(({ data := #[97] } : ByteArray), (2 : Int))] := by
    refine ⟨_, 1, rfl, Nat.le_refl _, by simp, fun x hx => ?_, fun _ => ⟨w.heap.size, 0, rfl, by omega, fun i x hx => ?_⟩⟩
    · obtain rfl := List.mem_singleton.1 hx; decide
    · cases i with
      | zero => simp at hx; subst hx; exact ⟨hX.c0, hX.c1⟩
      | succ i => simp at hx
  have kc := cells_any W.heap.size _ _ _ [] W (Nat.le_refl _) hc (rws_nil W W.heap.size) ys 0 hys.out
  go_enter Tryd.func10, Tryd.ntmps10
  go_wp2_with fail
  clear hW
  refine kc.mono ?_
  rintro e w1 ⟨v1, rfl, hI1, hb1⟩
  obtain ⟨b1, d1, e1, _, _⟩ := (hI1 w.heap.size (by omega)).slice
  rw [hy2] at e1
  subst e1
  have hbw : Below w.heap.size w w1 := bt hbW hb1
  clear kc hI1
  go_wp2
  go_ret
  exact ⟨rfl, hbw⟩


/-- what was written is read -/
theorem turn_ok {l : List Col} {rs : List (List Int)} (h : wroE l rs = 0) {R : List (List Int)} (hR : froR (allT l) (celT l rs) = R) : colE l = 0 ∧ R.length ≤ 4096 ∧ (∀ r ∈ R, RowOk l r) ∧ celT l R = celT l rs ∧ wroE l R = 0 ∧ apaE l l rs R = 0 ∧ apaT l l rs R = 0 ∧ prtT l R = prtT l rs := by
  obtain ⟨h1, h2, h3⟩ := wroE_ok h
  have hs := (colE_ok h1).2.2.1
  have hnn : ∀ x ∈ celT l rs, 0 ≤ x := fun x hx => (celT_bd hx).1
  have hl : (allT l).length = (celT l rs).length := by rw [allT_len, celT_len]
  have e1 : celT l R = celT l rs := by rw [← hR]; exact celT_fro hs (celT_len l rs) hnn
  have e2 : R.length ≤ 4096 := by
    have a := froR_len hl hnn
    rw [celT_sum hs rs.length rs rfl h3, hR] at a
    omega
  have e3 : ∀ r ∈ R, RowOk l r := by
    intro r hr
    rw [← hR] at hr
    exact allT_mem hs (froR_mem hr)
  have e4 : wroE l R = 0 := wroE_of h1 e2 e3
  have e5 := apaE_of h e4
  refine ⟨h1, e2, e3, e1, e4, e5, ?_, ?_⟩
  · rw [apaT, if_pos e5, e1]; exact (apaS_zero rfl).2 rfl
  · rw [prtT, prtT, e1]

set_option maxRecDepth 100000 in
set_option maxHeartbeats 2000000 in
theorem rowsTurn_walk (B : Nat) (cu ru : Value) (l : List Col) (ts : List Rw) (w : World) (hB : B ≤ w.heap.size) (hp : Cols w B cu l) (hq : Rws w B ru ts) (hpt : PT B w) :
    Calls Tryd.prog 4 #[.agg #[cu, ru]] w fun e w' => e = .returned (.bool true) ∧ Below w.heap.size w w' := by
  have HP : Hid (Cols w B cu l) := hp
  have HQ : Hid (Rws w B ru ts) := hq
  have HPT : Hid (PT B w) := hpt
  obtain ⟨a, c, rfl, hc, hl⟩ := hp.slice
  obtain ⟨a2, c2, rfl, hc2, hl2⟩ := hq.slice
  obtain ⟨W, hW⟩ : ∃ W, w.alloc (.cells #[.slice a l.length c, .slice a2 ts.length c2] 25) = W := ⟨_, rfl⟩
  have hbW : Below w.heap.size w W := hW ▸ ba _ _
  have hzW : w.heap.size < W.heap.size := by rw [← hW]; simp
  have HT0 : Hid (TwoB W w.heap.size (.slice a l.length c) (.slice a2 ts.length c2)) := hW ▸ TwoB.new w _ _ 25 _ rfl
  obtain ⟨⟨s, er⟩, hse⟩ : ∃ q, Hid (prtR l (rr ts) = q) := ⟨_, rfl⟩
  clear hpt
  go_enter Tryd.func4, Tryd.ntmps4
  go_wp2_with fail
  refine (alive_any W).mono ?_
  rintro e w1 ⟨rfl, hb1⟩
  have hbw1 : Below w.heap.size w w1 := bt hbW hb1
  have HT1 : Hid (TwoB w1 w.heap.size (.slice a l.length c) (.slice a2 ts.length c2)) := HT0.out.below hb1
  have hz1 := hb1.size
  have t0 := HT1.out.c0
  have t1 := HT1.out.c1
  have kp := print_any B _ _ l ts w1 (Nat.le_trans hB hbw1.size) (HP.out.at hB hbw1) (HQ.out.at hB hbw1) (HPT.out.at hB hbw1) s er hse.out
  go_wp2_with fail
  refine kp.mono ?_
  rintro e w2 ⟨rfl, hb2⟩
  have hbw2 : Below w.heap.size w w2 := bt hbw1 hb2
  have HT2 : Hid (TwoB w2 w.heap.size (.slice a l.length c) (.slice a2 ts.length c2)) := HT1.out.below hb2
  have hz2 := hb2.size
  clear kp t0 t1 hW
  by_cases he0 : er = 0
  · subst he0
    have hws : wroE l (rr ts) = 0 ∧ prtT l (rr ts) = s ∧ s.length ≤ 65536 := by
      have := hse.out
      rw [prtR] at this
      by_cases h0 : wroE l (rr ts) = 0
      · rw [if_pos h0] at this
        by_cases h1 : 65536 < (prtT l (rr ts)).length
        · rw [if_pos h1, Prod.mk.injEq] at this; exact absurd this.2 (by decide)
        · rw [if_neg h1, Prod.mk.injEq] at this; exact ⟨h0, this.1, by rw [← this.1]; omega⟩
      · rw [if_neg h0, Prod.mk.injEq] at this; exact absurd this.2 h0
    obtain ⟨R, HRR⟩ : ∃ R, Hid (froR (allT l) (celT l (rr ts)) = R) := ⟨_, rfl⟩
    have HK : Hid (colE l = 0 ∧ R.length ≤ 4096 ∧ (∀ r ∈ R, RowOk l r) ∧ celT l R = celT l (rr ts) ∧ wroE l R = 0 ∧ apaE l l (rr ts) R = 0 ∧ apaT l l (rr ts) R = 0 ∧ prtT l R = prtT l (rr ts)) := turn_ok hws.1 HRR.out
    have HS : Hid (prtT l (rr ts) = s) := hws.2.1
    have hsl : s.length ≤ 65536 := hws.2.2
    have HPU : Hid (prtR l R = (s, 0)) := by
      show _ = _
      rw [prtR, if_pos HK.out.2.2.2.2.1, HK.out.2.2.2.2.2.2.2, HS.out, if_neg (by omega)]
    have kr := read_any l R w2 HK.out.1 HK.out.2.1 HK.out.2.2.1 (tx s) (by rw [tx_list, ← HS.out, prtT, HRR.out]) (by rw [tx_size]; exact hsl)
    clear hws
    go_wp2_with fail
    refine kr.mono ?_
    rintro e w3 ⟨cv, rv, us, rfl, hC3, hR3, hrr3, hb3⟩
    have HC3 : Hid (Cols w3 w3.heap.size cv l) := hC3
    have HR3 : Hid (Rws w3 w3.heap.size rv us) := hR3
    have HE3 : Hid (rr us = R) := hrr3
    obtain ⟨a3, c3, rfl, hc3, hl3⟩ := hC3.slice
    obtain ⟨a4, c4, rfl, hc4, hl4⟩ := hR3.slice
    obtain ⟨V, hV⟩ : ∃ V, (w3.alloc (.cells #[.slice a3 l.length c3, .slice a4 us.length c4] 25)).alloc (.cells #[.int .i64 0, .int .i64 0] 30) = V := ⟨_, rfl⟩
    have hbV : Below w3.heap.size w3 V := hV ▸ bal (ba _ _) _
    have hbwV : Below w.heap.size w V := bt (bt hbw2 hb3) hbV
    have HTV : Hid (TwoB V w.heap.size (.slice a l.length c) (.slice a2 ts.length c2)) := (HT2.out.below hb3).below hbV
    have HUV : Hid (TwoB V w3.heap.size (.slice a3 l.length c3) (.slice a4 us.length c4)) := hV ▸ (TwoB.new w3 _ _ 25 _ rfl).below (ba _ _)
    have HFV : Hid (TwoB V (w3.heap.size + 1) (.int .i64 0) (.int .i64 0)) := hV ▸ TwoB.new _ _ _ 30 _ (by simp)
    have x0 := HTV.out.c0
    have x1 := HTV.out.c1
    have x2 := HUV.out.c0
    have x3 := HUV.out.c1
    have x4 := HFV.out.c0
    have x5 := HFV.out.c1
    have hsV := hbV.size
    have hBV : B ≤ V.heap.size := Nat.le_trans hB hbwV.size
    have ka := apart_any V.heap.size _ _ _ _ l l ts us V (Nat.le_refl _) ((HP.out.at hB hbwV).mono hBV) ((HQ.out.at hB hbwV).mono hBV) ((HC3.out.at (Nat.le_refl _) hbV).mono hsV) ((HR3.out.at (Nat.le_refl _) hbV).mono hsV) 0 0 (by rw [HE3.out]; exact HK.out.2.2.2.2.2.2.1) (by rw [HE3.out]; exact HK.out.2.2.2.2.2.1)
    rw [← hV] at x0 x1 x2 x3 x4 x5
    have HV : Hid ((w3.alloc (.cells #[.slice a3 l.length c3, .slice a4 us.length c4] 25)).alloc (.cells #[.int .i64 0, .int .i64 0] 30) = V) := hV
    clear kr hC3 hR3 hrr3 hV
    go_wp2_with fail
    rw [HV.out]
    refine ka.mono ?_
    rintro e w4 ⟨rfl, hb4⟩
    have hbw4 : Below w.heap.size w w4 := bt hbwV hb4
    have HU4 : Hid (TwoB w4 w3.heap.size (.slice a3 l.length c3) (.slice a4 us.length c4)) := HUV.out.below hb4
    have y0 := HU4.out.c0
    have y1 := HU4.out.c1
    have hs4 := hb4.size
    have kp := print_any w4.heap.size (.slice a3 l.length c3) (.slice a4 us.length c4) l us w4 (Nat.le_refl _) ((HC3.out.at (Nat.le_refl _) (bt hbV hb4)).mono (by omega)) ((HR3.out.at (Nat.le_refl _) (bt hbV hb4)).mono (by omega)) ((HPT.out.at hB hbw4).mono (Nat.le_trans hB hbw4.size)) s 0 (by rw [HE3.out]; exact HPU.out)
    clear ka x0 x1 x2 x3 x4 x5
    go_wp2_with fail
    refine kp.mono ?_
    rintro e w5 ⟨rfl, hb5⟩
    have hbw5 : Below w.heap.size w w5 := bt hbw4 hb5
    clear kp
    go_wp2
    go_ret
    exact ⟨ret_b (by simp), hbw5⟩
  · have hne : (er != 0) = true := by simpa using he0
    go_wp2
    go_ret
    exact ⟨rfl, hbw2⟩
end Go.Proofs.YtkpjjiomfgkobaaDoor
