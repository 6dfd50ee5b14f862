import Derived.Test.YtkpjjiomfgkobaaPnw
import Derived.Test.YtkpjjiomfgkobaaRnr
namespace Go.Proofs.Ytkpjjiomfgkobaa
open Go.RowKit Go.Proofs.Ytkpjjiomfgkobaa.Ds

set_option maxRecDepth 100000 in
set_option maxHeartbeats 4000000 in
theorem rowsNear_walk (B : Nat) (cu ru : Value) (l : List Col) (ts : List Rw) (w : World) (hB : B ≤ w.heap.size) (hp : Cols w B cu l) (hq : Rws w B ru ts) :
    Calls Try.prog 4 #[.agg #[cu, ru]] w fun e w' => e = .returned (.bool true) ∧ Below w.heap.size w w' := by
  have HP : Hid (Cols w B cu l) := hp
  have HQ : Hid (Rws w B ru ts) := hq
  obtain ⟨a, c, rfl, hc, hl⟩ := hp.slice
  obtain ⟨a2, c2, rfl, hc2, hl2⟩ := hq.slice
  obtain ⟨C, hC⟩ : ∃ q, Hid (neaT l (rr ts) = q) := ⟨_, rfl⟩
  obtain ⟨W, hW⟩ : ∃ W, w.alloc (.cells #[.slice a l.length c, .slice a2 ts.length c2] 25) = W := ⟨_, rfl⟩
  have hbW : Below w.heap.size w W := by rw [← hW]; exact ba _ _
  have hsW : W.heap.size = w.heap.size + 1 := by rw [← hW]; simp
  have HX : Hid (TwoB W w.heap.size (.slice a l.length c) (.slice a2 ts.length c2)) := by rw [← hW]; exact TwoB.new _ _ _ _ _ rfl
  have p0 := HX.out.c0
  have p1 := HX.out.c1
  have kc := pnear_any B _ _ l ts W (by omega) (HP.out.at hB hbW) (HQ.out.at hB hbW) C hC.out
  go_enter Try.func4, Try.ntmps4
  go_wp2_with fail
  clear hW
  refine kc.mono ?_
  rintro e w1 ⟨lv, tb, rfl, hT1, hM1, hb1⟩
  have hs1 := hb1.size
  have hbw1 : Below w.heap.size w w1 := bt hbW hb1
  have HX1 : Hid (TwoB w1 w.heap.size (.slice a l.length c) (.slice a2 ts.length c2)) := HX.out.below hb1
  have q0 := HX1.out.c0
  have q1 := HX1.out.c1
  have HT1 : Hid (Tbs w1 w1.heap.size lv tb) := hT1
  have HM1 : Hid (tb.map tc = C) := hM1
  obtain ⟨la, lc, rfl, _, hlen1⟩ := hT1.slice
  have kc2 := refnear_any B _ _ l ts w1 (Nat.le_trans hB hbw1.size) (HP.out.at hB hbw1) (HQ.out.at hB hbw1) C hC.out
  clear kc p0 p1 hT1 hM1
  go_wp2_with fail
  refine kc2.mono ?_
  rintro e w2 ⟨mv, ub, rfl, hT2, hM2, hb2⟩
  have hs2 := hb2.size
  have hbw2 : Below w.heap.size w w2 := bt hbw1 hb2
  have HT1' : Hid (Tbs w2 w2.heap.size (.slice la tb.length lc) tb) := (HT1.out.at (Nat.le_refl _) hb2).mono hs2
  have HT2 : Hid (Tbs w2 w2.heap.size mv ub) := hT2
  have HM2 : Hid (ub.map tc = C) := hM2
  obtain ⟨ma, mc, rfl, _, _⟩ := hT2.slice
  have hlen : tb.length = ub.length := by
    have h1 := congrArg List.length HM1.out
    have h2 := congrArg List.length hM2
    simp at h1 h2
    omega
  have hle : (((tb.length : Int)) != (ub.length : Int)) = false := by simp [hlen]
  have HLN : Hid (tb.length = ub.length) := hlen
  clear kc2 hT2 hM2 q0 q1 hlen
  go_wp2
  go_loopw [25] (fun s wr => ∃ i : Nat, s = .int .i64 (i : Int) ∧ i ≤ tb.length ∧ Below w2.heap.size w2 wr) (fun s _ => tb.length - (intOf s).toNat)
  case atStart => exact ⟨0, rfl, Nat.zero_le _, Below.refl _ _⟩
  case round =>
    obtain ⟨i, rfl, hi, hbl⟩ := hrel
    by_cases hi1 : i < tb.length
    · obtain ⟨b, o, t, ca, cn, ra, rn, rfl, hb, hgt, hcv, hrv, f1, f2, hok⟩ := HT1'.out.get (Nat.le_refl _) hbl hi1
      obtain ⟨b', o', u, ca', cn', ra', rn', rfl, hb', hgu, hcv', hrv', f1', f2', hok'⟩ := HT2.out.get (Nat.le_refl _) hbl (i := i) (by have := HLN.out; omega)
      have z1 : (i : Int) < (ub.length : Int) := by have := HLN.out; omega
      have HSM : Hid (sameB t.l u.l (rr t.ts) (rr u.ts) = true) := by
        have h1 : (tb.map tc)[i]? = some (tc t) := by simp [hgt]
        have h2 : (ub.map tc)[i]? = some (tc u) := by simp [hgu]
        rw [HM1.out, ← HM2.out, h2] at h1
        have h3 := Option.some.inj h1
        simp only [tc, Prod.mk.injEq] at h3
        exact decide_eq_true ⟨h3.1.symm, h3.2.symm⟩
      have HOK : Hid (Cols wr w2.heap.size (.slice ca t.l.length cn) t.l ∧ Rws wr w2.heap.size (.slice ra t.ts.length rn) t.ts) := by rw [← hcv, ← hrv]; exact hok
      have HOK' : Hid (Cols wr w2.heap.size (.slice ca' u.l.length cn') u.l ∧ Rws wr w2.heap.size (.slice ra' u.ts.length rn') u.ts) := by rw [← hcv', ← hrv']; exact hok'
      have hsr := hbl.size
      have lb1 : b < wr.heap.size := by omega
      have lb2 : b' < wr.heap.size := by omega
      clear hgt hgu hcv hrv hcv' hrv' hok hok'
      go_wp2_with fail
      go_region_held3 (fun w' => w'.cell? ⟨b, o + i * 2, none⟩ = some (.slice ca t.l.length cn) ∧ w'.cell? ⟨b, o + i * 2 + 1, none⟩ = some (.slice ra t.ts.length rn) ∧ w'.cell? ⟨b', o' + i * 2, none⟩ = some (.slice ca' u.l.length cn') ∧ w'.cell? ⟨b', o' + i * 2 + 1, none⟩ = some (.slice ra' u.ts.length rn'))
        ((go_split_ands; refine ⟨?_, ?_, ?_, ?_⟩ <;> first | assumption | (simp [go_sem, *]; done)))
        ((go_at_call 15; refine (sameT_any w2.heap.size _ _ _ _ t.l u.l t.ts u.ts _ ?_ ?_ ?_ ?_ ?_ true HSM.out).mono ?_; (show w2.heap.size ≤ wr.heap.size; exact hsr); (exact HOK.out.1.at hsr (Below.refl _ _).drew); (exact HOK.out.2.at hsr (Below.refl _ _).drew); (exact HOK'.out.1.at hsr (Below.refl _ _).drew); (exact HOK'.out.2.at hsr (Below.refl _ _).drew); rintro x5 w5 ⟨rfl, hb5'⟩; have hb5 : Below wr.heap.size wr w5 := (bt (Below.refl wr.heap.size wr).drew hb5'); have g0 : w5.cell? ⟨b, o + i * 2, none⟩ = some (.slice ca t.l.length cn) := (hb5.cell (p := ⟨b, o + i * 2, none⟩) lb1).trans f1; have g1 : w5.cell? ⟨b, o + i * 2 + 1, none⟩ = some (.slice ra t.ts.length rn) := (hb5.cell (p := ⟨b, o + i * 2 + 1, none⟩) lb1).trans f2; have g2 : w5.cell? ⟨b', o' + i * 2, none⟩ = some (.slice ca' u.l.length cn') := (hb5.cell (p := ⟨b', o' + i * 2, none⟩) lb2).trans f1'; have g3 : w5.cell? ⟨b', o' + i * 2 + 1, none⟩ = some (.slice ra' u.ts.length rn') := (hb5.cell (p := ⟨b', o' + i * 2 + 1, none⟩) lb2).trans f2'))
      have hbl5 : Below w2.heap.size w2 w5 := bt hbl hb5
      clear g0 g1 g2 g3 hb5 hb5' f1 f2 f1' f2'
      try clear hHeld
      go_wp2
      go_roundw
      case rel => exact ⟨i + 1, by go_num, hi1, hbl5⟩
      case measure => simp [intOf]; omega
    · go_wp2
      go_ret
      exact ⟨rfl, bt hbw2 hbl⟩
end Go.Proofs.Ytkpjjiomfgkobaa
