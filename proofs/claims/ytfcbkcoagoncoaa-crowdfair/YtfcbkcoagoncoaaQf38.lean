import Derived.Test.YtfcbkcoagoncoaaQf33
import Derived.Test.YtfcbkcoagoncoaaQf37
import Derived.BigRegion
namespace Go.Proofs.Ytfcbkcoagoncoaa
open Go.RowKit Go.Proofs.Ytfcbkcoagoncoaa.Ds Go.Proofs.Ytfcbkcoagoncoaa.Crd

/-- sums, some of them with one more -/
def smx (f g : Nat → Int) (k j : Nat) : List Int := (List.range (k + 1)).map fun i => if i < j then f i else g i
theorem smx_len (f g : Nat → Int) (k j : Nat) : (smx f g k j).length = k + 1 := by simp [smx]
theorem smx_zero (f g : Nat → Int) (k : Nat) : smx f g k 0 = (List.range (k + 1)).map g := by simp [smx]
theorem smx_all (f g : Nat → Int) (k : Nat) : smx f g k (k + 1) = (List.range (k + 1)).map f := by
  unfold smx
  refine List.map_congr_left fun i hi => ?_
  rw [if_pos (List.mem_range.1 hi)]
theorem smx_get (f g : Nat → Int) {k j : Nat} (h : j ≤ k) : (smx f g k j)[j]? = some (g j) := by
  unfold smx
  rw [List.getElem?_map, List.getElem?_range (by omega)]
  simp
theorem smx_set (f g : Nat → Int) {k j : Nat} (h : j ≤ k) : (smx f g k j).set j (f j) = smx f g k (j + 1) := by
  apply List.ext_getElem?
  intro i
  rw [List.getElem?_set]
  unfold smx
  by_cases e : j = i
  · subst e
    rw [if_pos rfl, if_pos (by simp; omega), List.getElem?_map, List.getElem?_range (by omega)]
    simp
  · rw [if_neg e]
    simp only [List.getElem?_map]
    by_cases hi : i < k + 1
    · rw [List.getElem?_range hi]
      simp only [Option.map_some]
      congr 1
      by_cases e2 : i < j
      · rw [if_pos e2, if_pos (by omega)]
      · rw [if_neg e2, if_neg (by omega)]
    · rw [List.getElem?_eq_none (by simp; omega)]
      simp
theorem map_get (f : Nat → Int) {k j : Nat} (h : j ≤ k) : ((List.range (k + 1)).map f)[j]? = some (f j) := by
  rw [List.getElem?_map, List.getElem?_range (by omega)]; rfl

set_option maxHeartbeats 2000000 in
set_option maxRecDepth 100000 in
theorem crowdFair_walk (B : Nat) (u d K : Int) (v : Value) (ts : List Int) (w : World) (hB : B ≤ w.heap.size) (hx : Num w B v ts) :
    Calls Try.prog 4 #[rv u d, .int .i64 K, v] w fun e w' => e = .returned (.bool true) ∧ Below w.heap.size w w' := by
  have HN : Hid (Num w B v ts) := hx
  obtain ⟨va, vc, rfl, hvc, hvl, _⟩ := hx
  obtain ⟨l, e1, hl⟩ : ∃ l e1, shuT u d K ts = (l, e1) := ⟨_, _, rfl⟩
  have ks := fun (W : World) (hW : Below w.heap.size w W) => shuffled_any B u d K (.slice va ts.length vc) ts W (by have := hW.size; omega) (HN.out.at hB hW) l e1 hl
  by_cases c0 : e1 = 0
  · subst c0
    have p1 : peoE u d K ts = 0 := by
      by_cases c : peoE u d K ts = 0
      · exact c
      · unfold shuT at hl; rw [if_pos c] at hl; simp only [Prod.mk.injEq] at hl; exact hl.2
    obtain ⟨k, rfl, hP⟩ := peo_ok p1
    rw [shu_of p1 rfl] at hl
    have hd1 := hP.d1
    have hdu := hP.du
    have hk7 := hP.k7
    have hl12 := hP.len
    have HP : Hid (Peo u d k ts) := hP
    have HM : Hid (makeT (expL u d k (natsT ts)) = (l, 0)) := hl
    obtain ⟨hmem, htot, hlne⟩ := made_mem hP hl
    have HME : Hid (∀ p ∈ l, p.1 ∈ cnts ts.length k ∧ 0 ≤ p.2) := hmem
    have HLN : Hid (l ≠ []) := hlne
    have k1 : (1 : Int) ≤ (k : Int) + 1 := by omega
    have k2 : ¬ ((k : Int) + 1 < 1) := by omega
    clear hl p1 hP hmem hlne
    by_cases c1 : u = d
    · have c1' : (u == d) = true := by simpa using c1
      subst c1
      clear HP HM HME HLN
      go_enter Try.func4, Try.ntmps4
      go_wp2_with fail
      refine (alive_any _).mono ?_
      rintro e w1 ⟨rfl, hb1⟩
      have G1 := bt (ba _ _) hb1
      obtain ⟨hc1, hf1⟩ := bcell hb1
      have r1 : w1.cell? ⟨w.heap.size, 0, none⟩ = some (.int .i64 u) := by rw [hc1 _ _ (by simp)]; simp [go_sem]
      have r2 : w1.cell? ⟨w.heap.size, 1, none⟩ = some (.int .i64 u) := by rw [hc1 _ _ (by simp)]; simp [go_sem]
      have hz1 : w.heap.size < w1.heap.size := by have := hb1.size; simp at this; omega
      clear hc1 hf1 hb1
      go_wp2_with fail
      refine (ks _ G1).mono ?_
      rintro x w2 ⟨v2, us2, rfl, hu2, ho2, hb2⟩
      obtain ⟨b2, d2, rfl⟩ := ho2.slice
      have G2 : Below w.heap.size w w2 := bt G1 hb2
      have q1 : w2.cell? ⟨w.heap.size, 0, none⟩ = some (.int .i64 u) := (hb2.cell (p := ⟨w.heap.size, 0, none⟩) hz1).trans r1
      have q2 : w2.cell? ⟨w.heap.size, 1, none⟩ = some (.int .i64 u) := (hb2.cell (p := ⟨w.heap.size, 1, none⟩) hz1).trans r2
      clear ks hu2 ho2 hb2 r1 r2
      go_wp2
      go_ret
      exact ⟨rfl, G2⟩
    · have c1' : (u == d) = false := by simpa using c1
      have hne : Hid (u ≠ d) := c1
      by_cases c2 : 1000 < u
      · clear HP HM HME
        go_enter Try.func4, Try.ntmps4
        go_wp2_with fail
        refine (alive_any _).mono ?_
        rintro e w1 ⟨rfl, hb1⟩
        have G1 := bt (ba _ _) hb1
        obtain ⟨hc1, hf1⟩ := bcell hb1
        have r1 : w1.cell? ⟨w.heap.size, 0, none⟩ = some (.int .i64 u) := by rw [hc1 _ _ (by simp)]; simp [go_sem]
        have r2 : w1.cell? ⟨w.heap.size, 1, none⟩ = some (.int .i64 d) := by rw [hc1 _ _ (by simp)]; simp [go_sem]
        have hz1 : w.heap.size < w1.heap.size := by have := hb1.size; simp at this; omega
        clear hc1 hf1 hb1
        go_wp2_with fail
        refine (ks _ G1).mono ?_
        rintro x w2 ⟨v2, us2, rfl, hu2, ho2, hb2⟩
        obtain ⟨b2, d2, rfl⟩ := ho2.slice
        have G2 : Below w.heap.size w w2 := bt G1 hb2
        have q1 : w2.cell? ⟨w.heap.size, 0, none⟩ = some (.int .i64 u) := (hb2.cell (p := ⟨w.heap.size, 0, none⟩) hz1).trans r1
        have q2 : w2.cell? ⟨w.heap.size, 1, none⟩ = some (.int .i64 d) := (hb2.cell (p := ⟨w.heap.size, 1, none⟩) hz1).trans r2
        have hul : 0 < us2.length := by
          have h3 : 0 < l.length := List.length_pos_iff.2 HLN.out
          rw [← hu2] at h3
          simpa [rd] using h3
        have hul1 : ¬ us2.length = 0 := by omega
        have hul2 : (0 : Int) < (us2.length : Int) := by omega
        clear ks hu2 ho2 hb2 r1 r2 HLN
        go_wp2
        go_ret
        exact ⟨rfl, G2⟩
      · have hu1000 : u ≤ 1000 := by omega
        obtain ⟨D, hD⟩ : ∃ D, u - d = D := ⟨_, rfl⟩
        have hD1 : 1 ≤ D := by have := hne.out; omega
        have hD2 : D ≤ 1000 := by omega
        have fD : IntKind.i64.wrap (u - d) = D := by rw [hD]; exact wrap_id (by omega)
        have HD : Hid (u - d = D) := hD
        have hmk := make_ints (k + 1) (by omega)
        have ek : ((k + 1 : Nat) : Int) = (k : Int) + 1 := by omega
        rw [ek] at hmk
        clear hD ek
        go_enter Try.func4, Try.ntmps4
        go_wp2_with fail
        refine (alive_any _).mono ?_
        rintro e w1 ⟨rfl, hb1⟩
        have G1 := bt (ba _ _) hb1
        obtain ⟨hc1, hf1⟩ := bcell hb1
        have r1 : w1.cell? ⟨w.heap.size, 0, none⟩ = some (.int .i64 u) := by rw [hc1 _ _ (by simp)]; simp [go_sem]
        have r2 : w1.cell? ⟨w.heap.size, 1, none⟩ = some (.int .i64 d) := by rw [hc1 _ _ (by simp)]; simp [go_sem]
        have hz1 : w.heap.size < w1.heap.size := by have := hb1.size; simp at this; omega
        clear hc1 hf1 hb1
        go_wp2_with fail
        refine (ks _ G1).mono ?_
        rintro x w2 ⟨v2, us, rfl, hu2, ho2, hb2⟩
        have G2 : Below w.heap.size w w2 := bt G1 hb2
        have hz2 := hb2.size
        have q1 : w2.cell? ⟨w.heap.size, 0, none⟩ = some (.int .i64 u) := (hb2.cell (p := ⟨w.heap.size, 0, none⟩) hz1).trans r1
        have q2 : w2.cell? ⟨w.heap.size, 1, none⟩ = some (.int .i64 d) := (hb2.cell (p := ⟨w.heap.size, 1, none⟩) hz1).trans r2
        have HU : Hid (rd us = l) := hu2
        have HPa : Hid (Parts w2 w2.heap.size v2 us) := ho2.parts
        obtain ⟨ua, uc, rfl, huc, hulb, hui, hux⟩ := ho2.parts
        have HUI : Hid (∀ t ∈ us, Ints w2 w2.heap.size w2.heap.size t.1 t.2.1) := hui
        have HUX : Hid (us ≠ [] → ∃ b o, ua = some ⟨b, o, none⟩ ∧ b < w2.heap.size ∧ Cells w2 b o us) := hux
        have hul : 0 < us.length := by
          have h3 : 0 < l.length := List.length_pos_iff.2 HLN.out
          rw [← hu2] at h3
          simpa [rd] using h3
        have hul1 : ¬ us.length = 0 := by omega
        have hul3 : ((us.length : Int) == 0) = false := beq_eq_false_iff_ne.2 (by omega)
        have k3 : decide ((k : Int) + 1 < 1) = false := decide_eq_false (by omega)
        have c3 : decide (1000 < u) = false := decide_eq_false (by omega)
        clear ks hu2 ho2 hb2 r1 r2 HLN hui hux
        go_wp2_with fail
        go_loopw [67] (fun s wr => ∃ (i : Nat), s = .int .i64 (i : Int) ∧ i ≤ us.length ∧ Hid (RowI wr w2.heap.size ((List.range (k + 1)).map (FS u d k ts.length (l.take i)))) ∧ Below w2.heap.size w2 wr) (fun s _ => us.length - (intOf s).toNat)
        case atStart =>
          refine ⟨0, rfl, Nat.zero_le _, ?_, ba _ _⟩
          have h3 := RowI.made w2 (k + 1)
          have h4 : (List.range (k + 1)).map (FS u d k ts.length (l.take 0)) = List.replicate (k + 1) 0 := by
            refine List.eq_replicate_iff.2 ⟨by simp, fun b hb => ?_⟩
            obtain ⟨j, _, rfl⟩ := List.mem_map.1 hb
            rfl
          rw [h4]
          exact h3
        case round =>
          obtain ⟨wA, rfl⟩ : ∃ wA : World, wA = wr := ⟨_, rfl⟩
          obtain ⟨i, rfl, hit, HO, hbl⟩ := hrel
          have hbs := hbl.size
          by_cases h1 : i < us.length
          · obtain ⟨⟨tv, txs, tk⟩, ht⟩ := get_lt h1
            have htm := List.mem_of_getElem? ht
            obtain ⟨b, o, rfl, hb, hcl⟩ := HUX.out (ne_of_lt h1)
            have hti : Ints w2 w2.heap.size w2.heap.size tv txs := HUI.out _ htm
            have HTI : Hid (Num w2 w2.heap.size tv txs) := Num.of hti
            obtain ⟨ta, tc, rfl, htc, htl, _⟩ := hti
            have a1 : wA.cell? ⟨b, o + i * 2, none⟩ = some (.slice ta txs.length tc) := (hbl.cell (p := ⟨b, o + i * 2, none⟩) hb).trans (hcl i _ ht).1
            have a2 : wA.cell? ⟨b, o + i * 2 + 1, none⟩ = some (.int .i64 tk) := (hbl.cell (p := ⟨b, o + i * 2 + 1, none⟩) hb).trans (hcl i _ ht).2
            have s1 : wA.cell? ⟨w.heap.size, 0, none⟩ = some (.int .i64 u) := (hbl.cell (p := ⟨w.heap.size, 0, none⟩) (by show w.heap.size < _; omega)).trans q1
            have s2 : wA.cell? ⟨w.heap.size, 1, none⟩ = some (.int .i64 d) := (hbl.cell (p := ⟨w.heap.size, 1, none⟩) (by show w.heap.size < _; omega)).trans q2
            have hrdi : l[i]? = some (txs, tk) := by rw [← HU.out]; simp [rd, ht]
            have HLi : Hid (l[i]? = some (txs, tk)) := hrdi
            obtain ⟨hcn, htk0⟩ := HME.out (txs, tk) (List.mem_of_getElem? hrdi)
            simp only at hcn htk0
            have htk1 : tk ≤ 1073741824 := by
              have h3 := Crd.tot_take (l := l) (fun p hp => (HME.out p hp).2) (i + 1)
              have h4 := (FS_bd (u := u) (d := d) (k := k) (n := ts.length) (j := 0) (by omega) hdu hu1000 hk7 hl12 (by omega) (l.take i) (fun p hp => HME.out p (List.mem_of_mem_take hp))).2.2
              rw [List.take_add_one, hrdi, tot_append] at h3
              simp [tot_cons] at h3
              omega
            obtain ⟨up, q, G, hgue, hupl, hG1, hG2, hqq1, hqq2, hqG, hupG⟩ := guess_of HP.out hne.out hcn
            have HCN : Hid (txs ∈ cnts ts.length k) := hcn
            have HGq : Hid (∀ j, j ≤ k → up.getD j 0 * G = FX u d k ts.length j txs) := hupG
            have HUP : Hid (up.length = k + 1) := hupl
            have hqD : q ≤ 1000 := by omega
            have hG3 : G ≤ 1000 := by omega
            have HQG : Hid (q * G = D) := by rw [Hid, ← HD.out]; exact hqG
            have hrem : D.tmod q = 0 := by rw [← HQG.out]; exact Int.mul_tmod_right q G
            have hquo : D.tdiv q = G := by rw [← HQG.out]; exact Int.mul_tdiv_cancel_left _ (by omega)
            have hrem2 : D % q = 0 := by rw [← HQG.out]; exact Int.mul_emod_right q G
            have hquo2 : D / q = G := by rw [← HQG.out]; exact Int.mul_ediv_cancel_left _ (by omega)
            have hq0 : ¬ q = 0 := by omega
            have hq1' : ¬ q < 1 := by omega
            have hq2' : decide (q < 1) = false := decide_eq_false (by omega)
            have hqb : (q == 0) = false := beq_eq_false_iff_ne.2 (by omega)
            have hup1 : ((up.length : Int) != (k : Int) + 1) = false := by
              rw [bne_eq_false_iff_eq, hupl]; omega
            have fr : IntKind.i64.wrap (D.tmod q) = 0 := by rw [hrem]; decide
            have fq : IntKind.i64.wrap (D.tdiv q) = G := by rw [hquo]; exact wrap_id (by omega)
            have hW12 : Below w2.heap.size w2 (wA.alloc (.cells #[.slice ta txs.length tc, .int .i64 tk] 37)) := bal hbl _
            have kg := guess_fr w2.heap.size u d (.slice ta txs.length tc) txs (wA.alloc (.cells #[.slice ta txs.length tc, .int .i64 tk] 37)) (by simp; omega) (HTI.out.at (Nat.le_refl _) hW12) up q 0 hgue
            have p3 : (wA.alloc (.cells #[.slice ta txs.length tc, .int .i64 tk] 37)).cell? ⟨w.heap.size, 0, none⟩ = some (.int .i64 u) := (World.cell?_alloc_lt _ _ _ (by show w.heap.size < _; omega)).trans s1
            have p4 : (wA.alloc (.cells #[.slice ta txs.length tc, .int .i64 tk] 37)).cell? ⟨w.heap.size, 1, none⟩ = some (.int .i64 d) := (World.cell?_alloc_lt _ _ _ (by show w.heap.size < _; omega)).trans s2
            clear ht htm hcl hrdi hcn hgue hupG hupl hqG hrem2 hquo2 hG2 hqq2
            go_wp2_with fail
            refine kg.mono ?_
            rintro y w4 ⟨v4, rfl, hn4, hb4, hfr4⟩
            have hA4 : Below wA.heap.size wA w4 := bt (ba _ _) hb4
            have hb4s := hb4.size
            simp only [World.size_alloc] at hb4s
            have HN4 : Hid (Num w4 w4.heap.size v4 up) := hn4
            have HFR : Hid (∀ b o n c, v4 = .slice (some ⟨b, o, none⟩) n c → wA.heap.size + 1 ≤ b) := fun b o n c e => by have := hfr4 b o n c e; simpa using this
            obtain ⟨ua4, uc4, rfl, huc4, _, _⟩ := hn4
            have HO4 : Hid (RowI w4 w2.heap.size (smx (FS u d k ts.length (l.take (i + 1))) (FS u d k ts.length (l.take i)) k 0)) := by
              rw [Hid, smx_zero]
              exact HO.out.keep hA4 HO.out.lt
            have t12 : w4.cell? ⟨wA.heap.size, 1, none⟩ = some (.int .i64 tk) := by rw [hb4.cell (p := ⟨wA.heap.size, 1, none⟩) (by simp)]; simp [go_sem]
            have hbl4 : Below w2.heap.size w2 w4 := bt hbl hA4
            clear kg hb4 hA4 a1 a2 p3 p4 s1 s2 hfr4
            go_wp2_with fail
            go_loopw [99] (fun s wq => ∃ (j : Nat), s = .int .i64 (j : Int) ∧ j ≤ k + 1 ∧ Hid (RowI wq w2.heap.size (smx (FS u d k ts.length (l.take (i + 1))) (FS u d k ts.length (l.take i)) k j)) ∧ Below w2.heap.size w2 wq ∧ Hid (∀ b o, b ≠ w2.heap.size → wq.cell? ⟨b, o, none⟩ = w4.cell? ⟨b, o, none⟩) ∧ Hid (w4.heap.size ≤ wq.heap.size)) (fun s _ => k + 1 - (intOf s).toNat)
            case atStart => exact ⟨0, rfl, Nat.zero_le _, HO4, hbl4, (fun _ _ _ => rfl), Nat.le_refl _⟩
            case round =>
              obtain ⟨j, rfl, hjt, HR, hbq, HK, HWq⟩ := hrel
              by_cases h2 : j < k + 1
              · have hjk : j ≤ k := by omega
                obtain ⟨b', o', c', x, hv', hcc', hb', hxj, hcx⟩ := HN4.out.get (i := j) (by rw [HUP.out]; exact h2)
                simp only [Value.slice.injEq, true_and] at hv'
                obtain ⟨rfl, rfl⟩ := hv'
                have hbf := HFR.out b' o' _ _ rfl
                obtain ⟨y, hy⟩ : ∃ y, FS u d k ts.length (l.take i) j = y := ⟨_, rfl⟩
                have cy := HR.out.cells j y (by rw [← hy]; exact smx_get _ _ hjk)
                have fy := HR.out.thaw j (by rw [smx_len]; exact h2)
                have cu : wr.cell? ⟨b', o' + j, none⟩ = some (.int .i64 x) := (HK.out b' (o' + j) (by omega)).trans hcx
                have ct : wr.cell? ⟨wA.heap.size, 1, none⟩ = some (.int .i64 tk) := (HK.out wA.heap.size 1 (by have := HO.out.lt; omega)).trans t12
                have hxG : x * G = FX u d k ts.length j txs := by
                  have h3 := HGq.out j hjk
                  rw [List.getD, hxj] at h3
                  exact h3
                have hfb := FX_bd (u := u) (d := d) (j := j) (by omega) hdu hu1000 hk7 hl12 HCN.out hjk
                rw [← hxG] at hfb
                have hxb : -108000 ≤ x ∧ x ≤ 108000 := by
                  rcases Int.lt_or_le x 0 with c | c
                  · have m1 : x * G ≤ x * 1 := Int.mul_le_mul_of_nonpos_left (by omega) hG1
                    omega
                  · have m1 : x * 1 ≤ x * G := Int.mul_le_mul_of_nonneg_left hG1 c
                    omega
                obtain ⟨P1, hP1⟩ : ∃ P1, tk * x = P1 := ⟨_, rfl⟩
                have hP1b : -(1073741824 * 108000) ≤ P1 ∧ P1 ≤ 1073741824 * 108000 := by
                  rw [← hP1]
                  have m1 : tk * x ≤ tk * 108000 := Int.mul_le_mul_of_nonneg_left hxb.2 htk0
                  have m2 : tk * (-108000) ≤ tk * x := Int.mul_le_mul_of_nonneg_left hxb.1 htk0
                  rw [Int.mul_neg] at m2
                  omega
                obtain ⟨P2, hP2⟩ : ∃ P2, P1 * G = P2 := ⟨_, rfl⟩
                have hP2e : P2 = tk * FX u d k ts.length j txs := by rw [← hP2, ← hP1, Int.mul_assoc, hxG]
                have hP2b : -(1073741824 * 108000) ≤ P2 ∧ P2 ≤ 1073741824 * 108000 := by
                  rw [hP2e, ← hxG]
                  have m1 : tk * (x * G) ≤ tk * 108000 := Int.mul_le_mul_of_nonneg_left hfb.2 htk0
                  have m2 : tk * (-108000) ≤ tk * (x * G) := Int.mul_le_mul_of_nonneg_left hfb.1 htk0
                  rw [Int.mul_neg] at m2
                  omega
                have hyb : -(1073741824 * 108000) ≤ y ∧ y ≤ 1073741824 * 108000 := by
                  have h3 := FS_bd (u := u) (d := d) (k := k) (n := ts.length) (j := j) (by omega) hdu hu1000 hk7 hl12 hjk (l.take i) (fun p hp => HME.out p (List.mem_of_mem_take hp))
                  have h4 := Crd.tot_take (l := l) (fun p hp => (HME.out p hp).2) i
                  rw [hy] at h3
                  omega
                obtain ⟨Y, hY⟩ : ∃ Y, y + P2 = Y := ⟨_, rfl⟩
                have HYe : Hid (FS u d k ts.length (l.take (i + 1)) j = Y) := by rw [Hid, FS_snoc HLi.out, hy, ← hY, hP2e]
                have g1 : IntKind.i64.wrap (tk * x) = P1 := by rw [hP1]; exact wrap_id (by omega)
                have g2 : IntKind.i64.wrap (P1 * G) = P2 := by rw [hP2]; exact wrap_id (by omega)
                have g3 : IntKind.i64.wrap (y + P2) = Y := by rw [hY]; exact wrap_id (by omega)
                have z1 : (j : Int) < (up.length : Int) := by have := HUP.out; omega
                have z2 : (j : Int) < (k : Int) + 1 := by omega
                have hlA : wA.heap.size < wr.heap.size := by have := HWq.out; omega
                have hlb : b' < wr.heap.size := by have := HWq.out; omega
                have nb1 : ¬ wA.heap.size = w2.heap.size := by have := HO.out.lt; omega
                have nb2 : ¬ b' = w2.heap.size := by omega
                have HR2 : Hid (∀ W, Below wr.heap.size wr W → RowI (W.setCell ⟨w2.heap.size, j, none⟩ (.int .i64 Y)) w2.heap.size (smx (FS u d k ts.length (l.take (i + 1))) (FS u d k ts.length (l.take i)) k (j + 1))) := by
                  intro W hW
                  have h3 := (HR.out.keep hW HR.out.lt).set j Y
                  rw [← HYe.out, smx_set _ _ hjk, HYe.out] at h3
                  exact h3
                clear hxG hfb hP1 hP2 hP2e hP1b hP2b hyb hy hY hxj hcx hxb
                go_wp2_with fail
                go_region
                have HR3 : Hid (RowI (wr.setCell ⟨w2.heap.size, j, none⟩ (.int .i64 Y)).drew w2.heap.size (smx (FS u d k ts.length (l.take (i + 1))) (FS u d k ts.length (l.take i)) k (j + 1))) := by
                  rw [Hid]
                  exact (HR2.out wr (Below.refl _ _)).keep (Below.refl _ _).drew (by simpa using HR.out.lt)
                have hbq3 : Below w2.heap.size w2 (wr.setCell ⟨w2.heap.size, j, none⟩ (.int .i64 Y)).drew := (bs hbq (Nat.le_refl _) _).drew
                have HK3 : Hid (∀ b o, b ≠ w2.heap.size → (wr.setCell ⟨w2.heap.size, j, none⟩ (.int .i64 Y)).drew.cell? ⟨b, o, none⟩ = w4.cell? ⟨b, o, none⟩) := by
                  intro b0 o0 hb0
                  refine Eq.trans ?_ (HK.out b0 o0 hb0)
                  exact sc_other (fun e => hb0 (congrArg Addr.block e).symm)
                have HWq3 : Hid (w4.heap.size ≤ (wr.setCell ⟨w2.heap.size, j, none⟩ (.int .i64 Y)).drew.heap.size) := by
                  have := HWq.out
                  rw [Hid]
                  simpa using this
                go_wp2
                go_roundw
                case rel => exact ⟨j + 1, by go_num, by omega, HR3, hbq3, HK3, HWq3⟩
                case measure => simp [intOf]; omega
              · have hj : j = k + 1 := by omega
                have z2 : ¬ (j : Int) < (k : Int) + 1 := by omega
                have HO5 : Hid (RowI wr w2.heap.size ((List.range (k + 1)).map (FS u d k ts.length (l.take (i + 1))))) := by
                  have h3 := HR.out
                  rw [hj, smx_all] at h3
                  exact h3
                clear hj HR HK
                go_wp2
                go_roundw
                case rel => exact ⟨i + 1, by go_num, by omega, HO5, hbq⟩
                case measure => simp [intOf]; omega
          · obtain rfl : i = us.length := by omega
            have hll : l.take us.length = l := List.take_of_length_le (by rw [← HU.out]; simp [rd])
            have HO2 : Hid (RowI wA w2.heap.size ((List.range (k + 1)).map (FS u d k ts.length l))) := by
              have h3 := HO.out
              rw [hll] at h3
              exact h3
            have G3 : Below w.heap.size w wA := bt G2 hbl
            obtain ⟨T, hT⟩ : ∃ T, tot (rd us) = T := ⟨_, rfl⟩
            have hTb : 0 ≤ T ∧ T ≤ 1073741824 := by
              rw [← hT, HU.out]
              exact ⟨(FS_bd (u := u) (d := d) (k := k) (n := ts.length) (j := 0) (by omega) hdu hu1000 hk7 hl12 (by omega) l HME.out).2.2, htot⟩
            have HNn : Hid (Nn (rd us)) := by
              rw [HU.out]
              exact fun p hp => (HME.out p hp).2
            have HTT : Hid (tot (rd us) = T) := hT
            have HFM : Hid (∀ j, j ≤ k → FS u d k ts.length l j = cntK (natsT ts) j * D * T) := by
              intro j hj
              rw [fair_main HP.out HM.out hj, HD.out, ← hT, HU.out]
            have kt := fun (W : World) (hW : Below w2.heap.size w2 W) => refTotal_any w2.heap.size (.slice ua us.length uc) us W hW.size (HPa.out.keep hW) HNn.out (by rw [HTT.out]; omega) T HTT.out
            clear hll HO hT
            go_wp2_with fail
            go_loopw [125] (fun s wr => ∃ (j : Nat), s = .int .i64 (j : Int) ∧ j ≤ k + 1 ∧ Below w2.heap.size w2 wr ∧ Hid (RowI wr w2.heap.size ((List.range (k + 1)).map (FS u d k ts.length l)))) (fun s _ => k + 1 - (intOf s).toNat)
            case atStart => exact ⟨0, rfl, Nat.zero_le _, hbl, HO2⟩
            case round =>
              obtain ⟨wB, rfl⟩ : ∃ wB : World, wB = wr := ⟨_, rfl⟩
              obtain ⟨j, rfl, hjt, hbj, HRj⟩ := hrel
              have GBj : Below w.heap.size w wB := bt G2 hbj
              by_cases h2 : j < k + 1
              · have hjk : j ≤ k := by omega
                have z2 : (j : Int) < (k : Int) + 1 := by omega
                go_wp2_with fail
                go_loopw [18, 130] (fun cv s wx => ∃ (q : Nat) (c : Int), s = .int .i64 (q : Int) ∧ cv = .int .i64 c ∧ q ≤ ts.length ∧ Hid (cntK (natsT (ts.take q)) j = c) ∧ 0 ≤ c ∧ c ≤ q ∧ wx = wB) (fun _ s _ => ts.length - (intOf s).toNat)
                case atStart => exact ⟨0, 0, rfl, rfl, Nat.zero_le _, rfl, by omega, by omega, rfl⟩
                case round =>
                  obtain ⟨q, c, rfl, rfl, hqt, HC, hc0, hc1, hwx⟩ := hrel
                  have hwy := hwx.symm
                  subst hwy
                  clear hwx
                  by_cases h3 : q < ts.length
                  · obtain ⟨b, o, c', x, hv, hcc, hb, hxq, hcell⟩ := (HN.out.at hB GBj).get h3
                    simp only [Value.slice.injEq, true_and] at hv
                    obtain ⟨rfl, rfl⟩ := hv
                    obtain ⟨x0, x1⟩ := HP.out.mem x (List.mem_of_getElem? hxq)
                    have HCS : Hid (cntK (natsT (ts.take (q + 1))) j = c + (if x.toNat = j then 1 else 0)) := by
                      rw [Hid, nats_snoc hxq, cntK, smL_append]
                      show cntK (natsT (ts.take q)) j + _ = _
                      rw [HC.out]
                      simp [smL]
                    clear hxq
                    by_cases e : x = (j : Int)
                    · have e' : (x == (j : Int)) = true := by simpa using e
                      have HC2 : Hid (cntK (natsT (ts.take (q + 1))) j = c + 1) := by rw [Hid, HCS.out, if_pos (by omega)]
                      subst e
                      go_wp2
                      go_roundw
                      case rel => exact ⟨q + 1, c + 1, by go_num, by go_num, by omega, HC2, by omega, by omega, trivial⟩
                      case measure => simp [intOf]; omega
                    · have e' : (x == (j : Int)) = false := by simpa using e
                      have HC2 : Hid (cntK (natsT (ts.take (q + 1))) j = c) := by rw [Hid, HCS.out, if_neg (by omega)]; omega
                      go_wp2
                      go_roundw
                      case rel => exact ⟨q + 1, c, by go_num, rfl, by omega, HC2, by omega, by omega, trivial⟩
                      case measure => simp [intOf]; omega
                  · have hq : q = ts.length := by omega
                    have HC2 : Hid (cntK (natsT ts) j = c) := by
                      have h4 := HC.out
                      rw [hq, List.take_of_length_le (Nat.le_refl _)] at h4
                      exact h4
                    obtain ⟨y, hy⟩ : ∃ y, FS u d k ts.length l j = y := ⟨_, rfl⟩
                    have cy := HRj.out.cells j y (by rw [← hy]; exact map_get _ hjk)
                    have hyf := HFM.out j hjk
                    rw [hy, HC2.out] at hyf
                    obtain ⟨R1, hR1⟩ : ∃ R1, c * D = R1 := ⟨_, rfl⟩
                    rw [hR1] at hyf
                    have hR1b : 0 ≤ R1 ∧ R1 ≤ 12 * 1000 := by
                      rw [← hR1]
                      exact ⟨Int.mul_nonneg hc0 (by omega), Int.mul_le_mul (by omega) (by omega) (by omega) (by omega)⟩
                    have hR2b : 0 ≤ R1 * T ∧ R1 * T ≤ 12000 * 1073741824 := ⟨Int.mul_nonneg hR1b.1 hTb.1, Int.mul_le_mul (by omega) hTb.2 hTb.1 (by omega)⟩
                    rw [← hyf] at hR2b
                    have f1 : IntKind.i64.wrap (c * D) = R1 := by rw [hR1]; exact wrap_id (by omega)
                    have f2 : IntKind.i64.wrap (R1 * T) = y := by rw [← hyf]; exact wrap_id (by omega)
                    clear hy hyf hR1 hq HC
                    have HS : Hid (∀ W, Below wB.heap.size wB W → W.cell? ⟨w2.heap.size, j, none⟩ = some (.int .i64 y)) := fun W hW => (hW.cell (p := ⟨w2.heap.size, j, none⟩) HRj.out.lt).trans cy
                    have hne2 : (y != y) = false := by simp
                    go_wp2_with fail
                    go_region_held3 (fun w' => w'.cell? ⟨w2.heap.size, j, none⟩ = some (.int .i64 y))
                      (first | with_reducible assumption | (refine HS.out _ ?_; first | with_reducible exact (Below.refl _ wB).drew | with_reducible exact hz5))
                      (first
                        | (go_at_call 13; refine (kt _ ?_).mono ?_; (with_reducible exact hbj.drew); rintro y5 w5 ⟨rfl, hb5⟩; refine cutP (P := Below wB.heap.size wB w5) ?_ (fun hz5 => ?_); (with_reducible exact bt (Below.refl _ wB).drew hb5)))
                    have hbj5 : Below w2.heap.size w2 w5 := bt hbj hz5
                    have HRj5 : Hid (RowI w5 w2.heap.size ((List.range (k + 1)).map (FS u d k ts.length l))) := HRj.out.keep hz5 HRj.out.lt
                    clear f1 f2 HS
                    go_wp2
                    go_roundw
                    case rel => exact ⟨j + 1, by go_num, by omega, hbj5, HRj5⟩
                    case measure => simp [intOf]; omega
              · have z2 : ¬ (j : Int) < (k : Int) + 1 := by omega
                go_wp2
                go_ret
                exact ⟨rfl, GBj⟩
  · have c1 : (e1 != 0) = true := by simpa using c0
    clear hl
    go_enter Try.func4, Try.ntmps4
    go_wp2_with fail
    refine (alive_any _).mono ?_
    rintro e w1 ⟨rfl, hb1⟩
    have G1 := bt (ba _ _) hb1
    obtain ⟨hc1, hf1⟩ := bcell hb1
    have r1 : w1.cell? ⟨w.heap.size, 0, none⟩ = some (.int .i64 u) := by rw [hc1 _ _ (by simp)]; simp [go_sem]
    have r2 : w1.cell? ⟨w.heap.size, 1, none⟩ = some (.int .i64 d) := by rw [hc1 _ _ (by simp)]; simp [go_sem]
    clear hc1 hf1 hb1
    go_wp2_with fail
    refine (ks _ G1).mono ?_
    rintro x w2 ⟨v2, us2, rfl, hu2, ho2, hb2⟩
    obtain ⟨b2, d2, rfl⟩ := ho2.slice
    have G2 : Below w.heap.size w w2 := bt G1 hb2
    clear ks hu2 ho2 hb2
    go_wp2
    go_ret
    exact ⟨rfl, G2⟩
end Go.Proofs.Ytfcbkcoagoncoaa
