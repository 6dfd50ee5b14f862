import Derived.Test.YtedfdbcoinfjaaaTsm
import Derived.Test.YtedfdbcoinfjaaaTgr
import Derived.Deep.RegionHeld3
import Derived.Deep.AppendLies
namespace Go.Proofs.Ytedfdbcoinfjaaa
open Go.RowKit Go.Proofs.Ytedfdbcoinfjaaa.Ds

theorem alive_any (w : World) : Calls Try.prog 12 #[] w fun e w' => e = .returned (.bool true) ∧ Below w.heap.size w w' := by
  have kc := cover_ok 1 1 (by decide) (by decide) w
  have hl1 : (cov 1 1).length = 1 := by decide
  rw [hl1] at kc
  go_enter Try.func12, Try.ntmps12
  go_wp2_with fail
  refine kc.mono ?_
  rintro e1 w1 ⟨v, rfl, hrow, hb1⟩
  obtain ⟨a, c, rfl⟩ := row_slice hrow
  clear kc hrow
  go_wp2
  go_ret
  exact ⟨rfl, hb1⟩

theorem ibd_step {xs : List Int} {j : Nat} {x : Int} (h : ∀ i y, i < j → xs[i]? = some y → 0 ≤ y ∧ y ≤ 1000) (hx : xs[j]? = some x) (h0 : 0 ≤ x) (h1 : x ≤ 1000) : ∀ i y, i < j + 1 → xs[i]? = some y → 0 ≤ y ∧ y ≤ 1000 := by
  intro i y hi hy
  by_cases c : i < j
  · exact h i y c hy
  · obtain rfl : i = j := by omega
    rw [hx] at hy
    simp at hy
    omega
/-- the sums so far, while all items so far are bounded -/
theorem sm_bd' {xs : List Int} : ∀ {j : Nat}, (∀ i y, i < j → xs[i]? = some y → 0 ≤ y ∧ y ≤ 1000) → 0 ≤ sm xs j ∧ sm xs j ≤ 1000 * (j : Int)
  | 0, _ => by rw [sm_zero]; simp
  | j + 1, h => by
    have ih := sm_bd' (j := j) fun i y hi => h i y (by omega)
    by_cases c : j < xs.length
    · obtain ⟨x, hx⟩ := get_lt c
      have := h j x (by omega) hx
      rw [sm_succ hx, Int.natCast_add]; omega
    · rw [sm_over (by omega), Int.natCast_add]; omega
theorem toks {h : Nat} {xs : List Int} {ts : List Rw} {s : Value} {r : List Int} (hk : ∀ i r, (rr ts)[i]? = some r → Rok h xs (i + 1) r) (hr : Rok h xs (ts.length + 1) r) : ∀ i q, (rr (ts ++ [(s, r)]))[i]? = some q → Rok h xs (i + 1) q := by
  intro i q hq
  have e : rr (ts ++ [(s, r)]) = rr ts ++ [r] := by simp [rr]
  rw [e] at hq
  by_cases c : i < (rr ts).length
  · rw [List.getElem?_append_left c] at hq
    exact hk i q hq
  · rw [rr_len] at c
    have hi : i = ts.length := by
      have := (List.getElem?_eq_some_iff.1 hq).1
      simp [rr] at this; omega
    subst hi
    rw [← rr_len ts, List.getElem?_append_right (Nat.le_refl _)] at hq
    simp at hq
    subst hq
    exact hr

theorem own_or {v : Value} {n : Nat} (h : ∀ g, v.ownBlock = some g → g < n) (hn : 0 < n) : ∃ m, m < n ∧ ∀ g, v.ownBlock = some g → m = g := by
  cases e : v.ownBlock with
  | none => exact ⟨0, hn, fun g e => by cases e⟩
  | some g => exact ⟨g, h g e, fun g' e => by simpa using e⟩
/-- a row of one's own comes behind the others -/
theorem told_more {w3 wq wr w5 : World} {g : Nat} {ta na : Option Addr} {tc nc : Nat} {ts : List Rw} {sv : Value} {xs : List Int} {n k : Nat} (hT : Rwr wq w3.heap.size (.slice ta n tc) ts) (hbp : Below wq.heap.size wq wr) (hg : g < wq.heap.size) (hk : k = xs.length) (hL : wr.ownsRow wq.heap.size 3 1 sv k (xs.map (.int .i64))) (hl : xs.length ≤ 1048576)
    (hown : w5.ownsRow w3.heap.size 31 1 (.slice na (ts.length + 1) nc) (ts.length + 1) (ts.map (·.1) ++ [sv])) (hgrow : (wr.alloc (.cells #[sv] 31)).grownBy w5 (Value.slice ta n tc).ownBlock) (hat : (Value.slice na (ts.length + 1) nc).ownBlock = (Value.slice ta n tc).ownBlock ∨ (Value.slice na (ts.length + 1) nc).ownBlock = some (wr.heap.size + 1)) :
    Rwr w5 w3.heap.size (.slice na (ts.length + 1) nc) (ts ++ [(sv, xs)]) := by
  obtain ⟨m, hm1, hm2⟩ := own_or (v := .slice ta n tc) (n := wq.heap.size) (fun g e => (hT.lt g e).2) (by omega)
  exact (hT.keep (bt hbp (ba _ _))).app hown hgrow (by simpa using hat) ((ints_of_owns hk (by omega) hL hm1).at2 (ba _ _)) hm2

set_option maxRecDepth 100000 in
set_option maxHeartbeats 8000000 in
theorem treeSums_walk (B : Nat) (h : Int) (v : Value) (t : Int) (xs : List Int) (w : World) (hB : B ≤ w.heap.size) (hr : Num w B v xs) : Calls Try.prog 4 #[.int .i64 h, v, .int .i64 t] w fun e w' => e = .returned (.bool true) ∧ Below w.heap.size w w' := by
  have kal := fun W => alive_any W
  obtain ⟨a, c, rfl, hc, hl⟩ := hr.slice
  have HN : Hid (Num w B (.slice a xs.length c) xs) := hr
  clear hr
  by_cases hh : 0 ≤ h ∧ h ≤ 10
  · obtain ⟨hn, rfl⟩ := Int.eq_ofNat_of_zero_le hh.1
    have hn10 : hn ≤ 10 := by omega
    have klo := fun W => long_any hn (by omega) W
    obtain ⟨q, hq⟩ : ∃ q, 2 ^ hn = q := ⟨_, rfl⟩
    have HQ : Hid (2 ^ hn = q) := hq
    have hq4 : q ≤ 1024 := by rw [← hq]; exact pow_le (Nat.le_refl _) hn10
    simp only [hq] at klo
    have g0 : ¬ (hn : Int) < 0 := by omega
    have g1 : ¬ (hn : Int) > 10 := by omega
    have g2 : ¬ 10 < hn := by omega
    clear hh hq
    by_cases cn : q < xs.length
    · have cn' : (xs.length : Int) > (q : Int) := by omega
      go_enter Try.func4, Try.ntmps4
      go_wp2_with fail
      refine (kal _).mono ?_
      rintro e1 w1 ⟨rfl, hb1⟩
      go_wp2_with fail
      refine (klo _).mono ?_
      rintro e2 w2 ⟨rfl, rfl⟩
      go_wp2
      go_ret
      exact ⟨rfl, hb1⟩
    · have cn' : ¬ (xs.length : Int) > (q : Int) := by omega
      by_cases ct : t < 0
      · go_enter Try.func4, Try.ntmps4
        go_wp2_with fail
        refine (kal _).mono ?_
        rintro e1 w1 ⟨rfl, hb1⟩
        go_wp2_with fail
        refine (klo _).mono ?_
        rintro e2 w2 ⟨rfl, rfl⟩
        go_wp2
        go_ret
        exact ⟨rfl, hb1⟩
      · obtain ⟨tn, rfl⟩ := Int.eq_ofNat_of_zero_le (show 0 ≤ t by omega)
        by_cases ctn : xs.length < tn
        · have ctn' : (tn : Int) > (xs.length : Int) := by omega
          go_enter Try.func4, Try.ntmps4
          go_wp2_with fail
          refine (kal _).mono ?_
          rintro e1 w1 ⟨rfl, hb1⟩
          go_wp2_with fail
          refine (klo _).mono ?_
          rintro e2 w2 ⟨rfl, rfl⟩
          go_wp2
          go_ret
          exact ⟨rfl, hb1⟩
        · have ctn' : ¬ (tn : Int) > (xs.length : Int) := by omega
          have htq : tn ≤ q := by omega
          have hx4 : xs.length ≤ 1024 := by omega
          obtain ⟨i0, hi0, hz0, hz1, hz2⟩ := info_parts info3
          obtain ⟨i1, hi1, hy0, hy1, hy2⟩ := info_parts info31
          go_enter Try.func4, Try.ntmps4
          go_wp2_with fail
          refine (kal _).mono ?_
          rintro e1 w1 ⟨rfl, hb1⟩
          go_wp2_with fail
          refine (klo _).mono ?_
          rintro e2 w2 ⟨rfl, rfl⟩
          clear kal klo
          have hs1 := hb1.size
          go_wp2_with fail
          go_loopw [7, 44] (fun sv s wr => ∃ (j : Nat) (sa : Option Addr) (sc : Nat), s = .int .i64 (j : Int) ∧ sv = .slice sa (j + 1) sc ∧ j ≤ xs.length ∧ Hid (wr.ownsRow w2.heap.size 3 1 (.slice sa (j + 1) sc) (j + 1) ((sumL xs (j + 1)).map (.int .i64))) ∧ Hid (∀ i y, i < j → xs[i]? = some y → 0 ≤ y ∧ y ≤ 1000) ∧ Below w2.heap.size w2 wr) (fun _ s _ => xs.length - (intOf s).toNat)
          case atStart => exact ⟨0, _, _, rfl, rfl, Nat.zero_le _, by rw [Hid, sumL_one]; exact owns_one _ _ _ (Nat.le_refl _), fun i y hi => by omega, ba _ _⟩
          case round =>
            obtain ⟨j, sa, sc, rfl, rfl, hj, HO, HI, hbl⟩ := hrel
            have hrs := hbl.size
            have Bw : Below w.heap.size w wr := bt hb1 hbl
            by_cases h1 : j < xs.length
            · obtain ⟨b, o, c', x, he, hxc, _, hx, hcx⟩ := (HN.out.at hB Bw).get h1
              simp only [Value.slice.injEq] at he
              obtain ⟨rfl, _, rfl⟩ := he
              have z1 : (j : Int) < (xs.length : Int) := by omega
              by_cases x0 : x < 0
              · clear hx
                go_wp2
                go_ret
                exact ⟨rfl, Bw⟩
              · by_cases x1 : x > 1000
                · clear hx
                  go_wp2
                  go_ret
                  exact ⟨rfl, Bw⟩
                · have HI2 : Hid (∀ i y, i < j + 1 → xs[i]? = some y → 0 ≤ y ∧ y ≤ 1000) := ibd_step HI.out hx (by omega) (by omega)
                  have hsb := sm_bd' HI.out
                  have hss := sm_succ hx
                  obtain ⟨S, hS⟩ : ∃ S, sm xs j = S := ⟨_, rfl⟩
                  rw [hS] at hsb hss
                  obtain ⟨g, rfl, hg1, hg2, hcg⟩ := row_cell HO.out (j := j) (u := .int .i64 S) (by rw [List.getElem?_map, sumL_get (by omega), hS]; rfl)
                  have hjj : ((j + 1 : Nat) : Int) - 1 = (j : Int) := by omega
                  have hj9 : (j : Int) < ((j + 1 : Nat) : Int) := by omega
                  have HOW : Hid ((wr.alloc (.cells #[.int .i64 (S + x)] 3)).ownsRow w2.heap.size 3 1 (.slice (some ⟨g, 0, none⟩) (j + 1) sc) (j + 1) ((sumL xs (j + 1)).map (.int .i64))) := row_gb HO.out (gb_none (ba _ _)) (by simp)
                  have HSS : Hid (sm xs (j + 1) = S + x) := hss
                  clear hx hS hss
                  go_wp2_with (at_builtin; refine wpList_append_own_at _ rfl _ _ 31 rfl w2.heap.size 3 i0 (.int .i64 0) 1 8 Try.underlying31 hi0 hz0 hz1 hz2 rfl (by decide) (.slice (some ⟨g, 0, none⟩) (j + 1) sc) (j + 1) ((sumL xs (j + 1)).map (.int .i64)) rfl HOW.out ⟨wr.heap.size, 0, none⟩ 1 1 [.int .i64 (S + x)] rfl rfl (one_cells wr _ _ _ rfl) (by intro z hz; simp at hz; subst hz; rfl) (by unfold maxLen; omega) (by omega) (by simp; omega) ?_)
                  intro nv' w5 hown hgrow hnil hat
                  have hlow : Below w2.heap.size w2 w5 := (hbl.alloc hrs _).grown hgrow (by simp; omega) (fun y e => (row_lt HO.out e).1)
                  obtain ⟨na, ncc, rfl⟩ := row_slice hown
                  have HRW : Hid (w5.ownsRow w2.heap.size 3 1 (.slice na (j + 1 + 1) ncc) (j + 1 + 1) ((sumL xs (j + 1 + 1)).map (.int .i64))) := by
                    rw [Hid, sumL_succ xs (j + 1), List.map_append, HSS.out]; exact hown
                  clear hown hgrow hnil hat HOW
                  go_wp2
                  go_roundw
                  case rel => exact ⟨j + 1, na, ncc, by go_num, rfl, by omega, HRW, HI2, hlow⟩
                  case measure => simp [intOf]; omega
            · obtain rfl : j = xs.length := by omega
              have HB : Hid (Ibd xs) := fun i y hy => HI.out i y (List.getElem?_eq_some_iff.1 hy).1 hy
              have z1 : ¬ ((xs.length : Nat) : Int) < (xs.length : Int) := by omega
              obtain ⟨g, rfl, hg1, hg2, _⟩ := row_cell HO.out (j := 0) (u := .int .i64 0) (by rw [List.getElem?_map, sumL_get (by omega), sm_zero]; rfl)
              have HCL : Hid (∀ W, Below wr.heap.size wr W → ∀ i, i ≤ xs.length → W.cell? ⟨g, i, none⟩ = some (.int .i64 (sm xs i))) := by
                intro W hW i hi
                have h3 := row_gb HO.out (gb_none hW) (by simp)
                obtain ⟨g', e', _, _, h4⟩ := row_cell h3 (j := i) (u := .int .i64 (sm xs i)) (by rw [List.getElem?_map, sumL_get (by omega)]; rfl)
                simp only [Option.some.injEq, Addr.mk.injEq, and_true] at e'
                subst e'
                exact h4
              clear HI HO
              obtain ⟨w3, hw3⟩ : ∃ w3, w3 = wr := ⟨_, rfl⟩
              subst hw3
              go_wp2_with fail
              go_loopw [10, 11] (fun tv s wq => ∃ (ta : Option Addr) (tc : Nat) (ts : List Rw), s = .int .i64 ((ts.length + 1 : Nat) : Int) ∧ tv = .slice ta ts.length tc ∧ ts.length ≤ xs.length ∧ Hid (Rwr wq w3.heap.size (.slice ta ts.length tc) ts) ∧ Hid (∀ i r, (rr ts)[i]? = some r → Rok hn xs (i + 1) r) ∧ Below w3.heap.size w3 wq) (fun _ s _ => xs.length + 1 - (intOf s).toNat)
              case atStart => exact ⟨none, 0, [], rfl, rfl, Nat.zero_le _, Rwr.nil _ _, fun i r hi => by simp [rr] at hi, Below.refl _ _⟩
              case round =>
                obtain ⟨ta, tc, ts, hsv, rfl, htl, HT, HK, hbq⟩ := hrel
                have hqs := hbq.size
                by_cases h2 : ts.length < xs.length
                · obtain ⟨t, ht⟩ : ∃ t, ts.length + 1 = t := ⟨_, rfl⟩
                  rw [ht] at hsv
                  subst hsv
                  have HTT : Hid (ts.length + 1 = t) := ht
                  have ht1 : 1 ≤ t := by omega
                  have htx : t ≤ xs.length := by omega
                  have z2 : (t : Int) ≤ (xs.length : Int) := by omega
                  clear ht
                  obtain ⟨wq, hwq⟩ : ∃ wq, wq = wr := ⟨_, rfl⟩
                  subst hwq
                  go_wp2_with fail
                  go_loopw [12, 13] (fun lv s wp => ∃ (k : Nat) (la : Option Addr) (lc : Nat), s = .int .i64 (k : Int) ∧ lv = .slice la k lc ∧ k ≤ hn + 1 ∧ Hid (wp.ownsRow wq.heap.size 3 1 (.slice la k lc) k ((rowL xs t k).map (.int .i64))) ∧ Below wq.heap.size wq wp) (fun _ s _ => hn + 1 - (intOf s).toNat)
                  case atStart => exact ⟨0, none, 0, rfl, rfl, Nat.zero_le _, ⟨rfl, .inl ⟨rfl, rfl⟩⟩, Below.refl _ _⟩
                  case round =>
                    obtain ⟨k, la, lc, rfl, rfl, hk, HL, hbp⟩ := hrel
                    have hps := hbp.size
                    by_cases h3 : k ≤ hn
                    · have kl := fun W => long_any k (by omega) W
                      obtain ⟨p, hp⟩ : ∃ p, 2 ^ k = p := ⟨_, rfl⟩
                      have hp0 : 0 < p := by rw [← hp]; exact Nat.two_pow_pos _
                      have hp4 : p ≤ 1024 := by rw [← hp]; exact pow_le h3 hn10
                      have HP : Hid (2 ^ k = p) := hp
                      simp only [hp] at kl
                      have hpi : (p : Int) ≠ 0 := by omega
                      obtain ⟨m, hm⟩ : ∃ m, t % p = m := ⟨_, rfl⟩
                      have hmp : m < p := by rw [← hm]; exact Nat.mod_lt _ hp0
                      have hmi : (t : Int) % (p : Int) = (m : Int) := by rw [← hm]; exact (Int.natCast_emod _ _).symm
                      have HM : Hid (t % p = m) := hm
                      have z5 : (k : Int) ≤ (hn : Int) := by omega
                      clear hp hm
                      by_cases c1 : m = 0
                      · subst c1
                        have hpt : p ≤ t := Nat.le_of_dvd (by omega) (Nat.dvd_of_mod_eq_zero HM.out)
                        have bP : Below w3.heap.size w3 wr := bt hbq hbp
                        have cA := HCL.out wr bP t htx
                        obtain ⟨u, hu⟩ : ∃ u, t - p = u := ⟨_, rfl⟩
                        have cB := HCL.out wr bP u (by omega)
                        have hui : (t : Int) - (p : Int) = (u : Int) := by omega
                        obtain ⟨SA, hSA⟩ : ∃ SA, sm xs t = SA := ⟨_, rfl⟩
                        obtain ⟨SB, hSB⟩ : ∃ SB, sm xs u = SB := ⟨_, rfl⟩
                        have bA := sm_bd HB.out t
                        have bB := sm_bd HB.out u
                        rw [hSA] at cA bA
                        rw [hSB] at cB bB
                        have wS : IntKind.i64.wrap (SA - SB) = SA - SB := by rw [IntKind.wrap_i64]; omega
                        have wU : IntKind.i64.wrap ((t : Int) - (p : Int)) = (u : Int) := by rw [hui, IntKind.wrap_i64]; omega
                        have HROW : Hid (rowL xs t (k + 1) = rowL xs t k ++ [SA - SB]) := by rw [Hid, rowL_succ, HP.out, hu, hSA, hSB]
                        have j1 : (0 : Int) ≤ (t : Int) := by omega
                        have j2 : (t : Int) < ((xs.length + 1 : Nat) : Int) := by omega
                        have j3 : (0 : Int) ≤ (u : Int) := by omega
                        have j5 : (t : Int) < (xs.length : Int) + 1 := by omega
                        have j6 : (u : Int) < (xs.length : Int) + 1 := by omega
                        have j7 : t < xs.length + 1 := by omega
                        have j8 : u < xs.length + 1 := by omega
                        have j4 : (u : Int) < ((xs.length + 1 : Nat) : Int) := by omega
                        have hg3 : g < wr.heap.size := by have := bP.size; omega
                        have hgw : g < wq.heap.size := by omega
                        have k5 : ∀ o, (wr.drew.alloc o).cell? ⟨g, t, none⟩ = some (.int .i64 SA) := fun o => ((ba _ _).cell (p := ⟨g, t, none⟩) hg3).trans cA
                        have k6 : ∀ o, (wr.drew.alloc o).cell? ⟨g, u, none⟩ = some (.int .i64 SB) := fun o => ((ba _ _).cell (p := ⟨g, u, none⟩) hg3).trans cB
                        have k3 : wr.drew.cell? ⟨g, t, none⟩ = some (.int .i64 SA) := cA
                        have k4 : wr.drew.cell? ⟨g, u, none⟩ = some (.int .i64 SB) := cB
                        clear hu hSA hSB hui
                        go_wp2_with fail
                        refine (kl _).mono ?_
                        rintro e3 w9 ⟨rfl, hw9⟩
                        have hwy := hw9.symm
                        subst hwy
                        clear hw9
                        go_wp2_with fail
                        go_region_held3 (fun w' => w'.cell? ⟨g, t, none⟩ = some (.int .i64 SA) ∧ w'.cell? ⟨g, u, none⟩ = some (.int .i64 SB))
                          (first | assumption | (exact k5 _) | (exact k6 _) | (simp [go_sem, *]; done))
                          (first
                            | (go_at_call 13; refine (kl _).mono ?_; rintro x3 w9 ⟨rfl, rfl⟩)
                            | (refine step_append_lies _ rfl _ _ 31 rfl wq.heap.size 3 i0 (.int .i64 0) 1 8 Try.underlying31 hi0 hz0 hz1 hz2 rfl (by decide) (.slice la k lc) k ((rowL xs t k).map (.int .i64)) rfl ?_ ⟨wr.heap.size, 0, none⟩ 1 1 [.int .i64 (SA - SB)] rfl rfl ?_ ?_ (by decide) ?_ ?_ ?_ (wr.heap.size + 1) ?_ ?_; (exact row_gb HL.out (gb_none (bal (Below.refl _ _).drew _)) (by simp)); (exact one_cells _ _ _ _ rfl); (intro z hz; simp at hz; subst hz; rfl); (unfold maxLen; omega); (omega); (simp; omega); (simp); intro g3 cap' w4 hown hgrow hat hlt; have k70 : w4.cell? ⟨g, t, none⟩ = some (.int .i64 SA) := hgrow.cell (k5 _) (fun e => absurd (row_lt HL.out e.symm).1 (Nat.not_le_of_lt hgw)); have k71 : w4.cell? ⟨g, u, none⟩ = some (.int .i64 SB) := hgrow.cell (k6 _) (fun e => absurd (row_lt HL.out e.symm).1 (Nat.not_le_of_lt hgw))))
                        all_goals
                          have HR4 : Hid (w4.ownsRow wq.heap.size 3 1 (.slice (some ⟨g3, 0, none⟩) (k + 1) cap') (k + 1) ((rowL xs t (k + 1)).map (.int .i64))) := by
                            rw [Hid, HROW.out, List.map_append]; exact hown
                          have HB4 : Below wq.heap.size wq w4 := (bal (hbp.drew) _).grown hgrow (by simp; omega) (fun y e => (row_lt HL.out e).1)
                          clear hown hgrow hat hlt k70 k71
                          go_wp2
                          go_roundw
                          case rel => exact ⟨k + 1, _, _, by go_num, rfl, by omega, HR4, HB4⟩
                          case measure => simp [intOf]; omega
                      · have hmn : ((m : Int) != 0) = true := by simp; omega
                        have hmn2 : ¬ (m : Int) = 0 := by omega
                        have HK2 : Hid (∀ i q, (rr (ts ++ [(.slice la k lc, rowL xs t k)]))[i]? = some q → Rok hn xs (i + 1) q) := toks HK.out (by rw [HTT.out]; exact ⟨k, rfl, fun hd => c1 (by rw [← HM.out, ← HP.out]; exact Nat.mod_eq_zero_of_dvd hd.2)⟩)
                        have HOW : Hid ((wr.alloc (.cells #[.slice la k lc] 31)).ownsRow w3.heap.size 31 1 (.slice ta ts.length tc) ts.length (ts.map (·.1))) := row_gb HT.out.1 (gb_none (bt hbp (ba _ _))) (by simp)
                        have hgw : g < wq.heap.size := by omega
                        have bP : Below w3.heap.size w3 wr := bt hbq hbp
                        have hts4 : ts.length + 1 ≤ 1025 := by omega
                        go_wp2_with fail
                        refine (kl _).mono ?_
                        rintro e3 w9 ⟨rfl, hw9⟩
                        have hwy := hw9.symm
                        subst hwy
                        clear hw9 kl
                        go_wp2_with (at_builtin; refine wpList_append_own_at _ rfl _ _ 22 rfl w3.heap.size 31 i1 (.slice none 0 0) 1 24 Try.underlying22 hi1 hy0 hy1 hy2 rfl (by decide) (.slice ta ts.length tc) ts.length (ts.map (·.1)) rfl HOW.out ⟨wr.heap.size, 0, none⟩ 1 1 [.slice la k lc] rfl rfl (one_cells wr _ _ _ rfl) (by intro z hz; simp at hz; subst hz; rfl) (by unfold maxLen; omega) (by omega) (by simp; omega) ?_)
                        intro nv' w5 hown hgrow hnil hat
                        have hlow : Below w3.heap.size w3 w5 := (bP.alloc bP.size _).grown hgrow (by simp; omega) (fun y e => (row_lt HT.out.1 e).1)
                        obtain ⟨na, ncc, rfl⟩ := row_slice hown
                        have HT5 : Hid (Rwr w5 w3.heap.size (.slice na (ts.length + 1) ncc) (ts ++ [(.slice la k lc, rowL xs t k)])) := told_more HT.out hbp hgw (rowL_len _ _ _).symm HL.out (by rw [rowL_len]; omega) hown hgrow hat
                        clear hown hgrow hnil hat HOW
                        go_wp2
                        go_roundw
                        case rel => exact ⟨na, ncc, ts ++ [(.slice la k lc, rowL xs t k)], by have := HTT.out; simp; omega, by simp, by simp; omega, by rw [Hid, List.length_append]; exact HT5.out, HK2, hlow⟩
                        case measure => simp [intOf]; omega
                    · obtain rfl : k = hn + 1 := by omega
                      have z5 : ¬ ((hn + 1 : Nat) : Int) ≤ (hn : Int) := by omega
                      have HK2 : Hid (∀ i q, (rr (ts ++ [(.slice la (hn + 1) lc, rowL xs t (hn + 1))]))[i]? = some q → Rok hn xs (i + 1) q) := toks HK.out (by rw [HTT.out]; exact ⟨hn + 1, rfl, fun hd => by omega⟩)
                      have HOW : Hid ((wr.alloc (.cells #[.slice la (hn + 1) lc] 31)).ownsRow w3.heap.size 31 1 (.slice ta ts.length tc) ts.length (ts.map (·.1))) := row_gb HT.out.1 (gb_none (bt hbp (ba _ _))) (by simp)
                      have hgw : g < wq.heap.size := by omega
                      have bP : Below w3.heap.size w3 wr := bt hbq hbp
                      have hts4 : ts.length + 1 ≤ 1025 := by omega
                      go_wp2_with (at_builtin; refine wpList_append_own_at _ rfl _ _ 22 rfl w3.heap.size 31 i1 (.slice none 0 0) 1 24 Try.underlying22 hi1 hy0 hy1 hy2 rfl (by decide) (.slice ta ts.length tc) ts.length (ts.map (·.1)) rfl HOW.out ⟨wr.heap.size, 0, none⟩ 1 1 [.slice la (hn + 1) lc] rfl rfl (one_cells wr _ _ _ rfl) (by intro z hz; simp at hz; subst hz; rfl) (by unfold maxLen; omega) (by omega) (by simp; omega) ?_)
                      intro nv' w5 hown hgrow hnil hat
                      have hlow : Below w3.heap.size w3 w5 := (bP.alloc bP.size _).grown hgrow (by simp; omega) (fun y e => (row_lt HT.out.1 e).1)
                      obtain ⟨na, ncc, rfl⟩ := row_slice hown
                      have HT5 : Hid (Rwr w5 w3.heap.size (.slice na (ts.length + 1) ncc) (ts ++ [(.slice la (hn + 1) lc, rowL xs t (hn + 1))])) := told_more HT.out hbp hgw (rowL_len _ _ _).symm HL.out (by rw [rowL_len]; omega) hown hgrow hat
                      clear hown hgrow hnil hat HOW
                      go_wp2
                      go_roundw
                      case rel => exact ⟨na, ncc, ts ++ [(.slice la (hn + 1) lc, rowL xs t (hn + 1))], by have := HTT.out; simp; omega, by simp, by simp; omega, by rw [Hid, List.length_append]; exact HT5.out, HK2, hlow⟩
                      case measure => simp [intOf]; omega
                · have hle : ts.length = xs.length := by omega
                  have hso : soR (hn : Int) (tn : Int) (rr ts) = (sm xs tn, 0) := so_sums hn10 (by rw [HQ.out]; exact htq) HB.out (by rw [rr_len]; omega) HK.out
                  have ks := so_any wr.heap.size (.slice ta ts.length tc) ts (hn : Int) (tn : Int) wr (Nat.le_refl _) (HT.out.rws (by omega)) _ _ hso
                  have z2 : ¬ ((ts.length + 1 : Nat) : Int) ≤ (xs.length : Int) := by omega
                  have z4 : ¬ ts.length + 1 ≤ xs.length := by omega
                  subst hsv
                  have cN := fun W hW => HCL.out W hW tn (by omega)
                  obtain ⟨S, hS⟩ : ∃ S, sm xs tn = S := ⟨_, rfl⟩
                  simp only [hS] at ks cN
                  have hts4 : ts.length ≤ 1024 := by omega
                  clear hso hS hle
                  have j5 : (tn : Int) < (xs.length : Int) + 1 := by omega
                  have j7 : tn < xs.length + 1 := by omega
                  go_wp2_with fail
                  refine ks.mono ?_
                  rintro e7 w7 ⟨rfl, hb7⟩
                  have c7 := cN w7 (bt hbq hb7)
                  clear ks cN
                  go_wp2
                  go_ret
                  exact ⟨by simp, bt (bt (bt hb1 hbl) hbq) hb7⟩
  · by_cases h0 : h < 0
    · clear hh
      go_enter Try.func4, Try.ntmps4
      go_wp2_with fail
      refine (kal _).mono ?_
      rintro e1 w1 ⟨rfl, hb1⟩
      go_wp2
      go_ret
      exact ⟨rfl, hb1⟩
    · have h1 : h > 10 := by omega
      clear hh
      go_enter Try.func4, Try.ntmps4
      go_wp2_with fail
      refine (kal _).mono ?_
      rintro e1 w1 ⟨rfl, hb1⟩
      go_wp2
      go_ret
      exact ⟨rfl, hb1⟩
end Go.Proofs.Ytedfdbcoinfjaaa
