import Derived.Test.YtfcbkcoagoncoaaQh21
namespace Go.Proofs.Ytfcbkcoagoncoaa
open Go.RowKit Go.Proofs.Ytfcbkcoagoncoaa.Ds

set_option maxHeartbeats 1000000 in
theorem makeR_any (B : Nat) (v : Value) (ts : List Tr) (w : World) (hB : B ≤ w.heap.size) (hp : Parts w B v ts) (l : List Pt) (er : Int) (hr : makeT (rd ts) = (l, er)) :
    Calls Try.prog 23 #[v] w fun e w' => ∃ v' us, e = .returned (.tuple #[v', .int .i64 er]) ∧ rd us = l ∧ OwnN w' w.heap.size v' us ∧ Below w.heap.size w w' := by
  have HP : Hid (Parts w B v ts) := hp
  obtain ⟨a, c, rfl, hc, hl, _⟩ := hp
  have HR : Hid (makeT (rd ts) = (l, er)) := hr
  clear hr
  go_enter Try.func23, Try.ntmps23
  go_wp2
  go_loopw [8] (fun s wr => ∃ i : Nat, s = .int .i64 (i : Int) ∧ i ≤ ts.length ∧ ((rd ts).take i).all okP = true ∧ Below w.heap.size w wr) (fun s _ => ts.length - (intOf s).toNat)
  case atStart => exact ⟨0, rfl, Nat.zero_le _, by simp, Below.refl _ _⟩
  case round =>
    obtain ⟨i, rfl, hix, hall, hbl⟩ := hrel
    have HA : Hid (((rd ts).take i).all okP = true) := hall
    clear hall
    by_cases h1 : i < ts.length
    · obtain ⟨b, o, sa, sc, xs, k, rfl, hb, hs, c1, c2, hI⟩ := HP.out.get hB hbl h1
      have HZ : Hid ((rd ts)[i]? = some (xs, k)) := rd_get hs
      have HI : Hid (Ints wr B B (.slice sa xs.length sc) xs) := hI
      have hs1 := hbl.size
      clear hs hI
      have bad : okP (xs, k) = false → Hid (l = [] ∧ er = 3) := by
        intro h
        have h2 := HR.out
        rw [makeT, all_false HZ.out h] at h2
        simp only [Bool.false_eq_true, if_false, Prod.mk.injEq] at h2
        exact ⟨h2.1.symm, h2.2.symm⟩
      obtain ⟨r0, HO⟩ : ∃ r0, Hid (okO xs = r0) := ⟨_, rfl⟩
      have ks := fun W h => small_any B B (.slice sa xs.length sc) xs W h r0 HO.out
      cases r0 with
      | false =>
        obtain ⟨rfl, rfl⟩ := (bad (by unfold okP; rw [show okO (xs, k).1 = false from HO.out, Bool.and_false])).out
        clear bad
        go_wp2_with (go_at_call 39; refine (ks _ ?_).mono ?_; (exact HI.out.at (by omega) (ba _ _)); rintro e w1 ⟨rfl, rfl⟩)
        exact bodyPost_ret (v := .tuple #[.slice none 0 0, .int .i64 3]) (by simp [results, Try.results23, go_sem]) rfl ⟨_, [], rfl, rfl, .inl ⟨rfl, rfl⟩, bal hbl _⟩
      | true =>
        by_cases hk1 : k < 0
        · obtain ⟨rfl, rfl⟩ := (bad (by unfold okP; rw [show decide (0 ≤ (xs, k).2 ∧ (xs, k).2 ≤ 1073741824) = false from decide_eq_false (by simp; omega), Bool.false_and])).out
          clear bad
          go_wp2_with (go_at_call 39; refine (ks _ ?_).mono ?_; (exact HI.out.at (by omega) (ba _ _)); rintro e w1 ⟨rfl, rfl⟩)
          exact bodyPost_ret (v := .tuple #[.slice none 0 0, .int .i64 3]) (by simp [results, Try.results23, go_sem]) rfl ⟨_, [], rfl, rfl, .inl ⟨rfl, rfl⟩, bal hbl _⟩
        · by_cases hk2 : 1073741824 < k
          · obtain ⟨rfl, rfl⟩ := (bad (by unfold okP; rw [show decide (0 ≤ (xs, k).2 ∧ (xs, k).2 ≤ 1073741824) = false from decide_eq_false (by simp; omega), Bool.false_and])).out
            clear bad
            go_wp2_with (go_at_call 39; refine (ks _ ?_).mono ?_; (exact HI.out.at (by omega) (ba _ _)); rintro e w1 ⟨rfl, rfl⟩)
            exact bodyPost_ret (v := .tuple #[.slice none 0 0, .int .i64 3]) (by simp [results, Try.results23, go_sem]) rfl ⟨_, [], rfl, rfl, .inl ⟨rfl, rfl⟩, bal hbl _⟩
          · have HN : Hid (((rd ts).take (i + 1)).all okP = true) := by
              rw [Hid, all_take HZ.out, HA.out]
              unfold okP
              rw [show okO (xs, k).1 = true from HO.out, show decide (0 ≤ (xs, k).2 ∧ (xs, k).2 ≤ 1073741824) = true from decide_eq_true (by simp; omega)]
              rfl
            clear bad
            go_wp2_with (go_at_call 39; refine (ks _ ?_).mono ?_; (exact HI.out.at (by omega) (ba _ _)); rintro e w1 ⟨rfl, rfl⟩)
            go_roundw
            case rel => exact ⟨i + 1, by go_num, h1, HN.out, bal hbl _⟩
            case measure => simp [intOf]; omega
    · have hA : (rd ts).all okP = true := by have := HA.out; rwa [rd_take_all (by omega)] at this
      have h2 := HR.out
      rw [makeT, hA] at h2
      simp only [if_true] at h2
      have kt := tidy_any B _ ts wr (Nat.le_trans hB hbl.size) (HP.out.at hB hbl) (all_okP hA).1 (tot_ok hA (by rw [rd_len]; exact hl)) l er h2
      have hs1 := hbl.size
      clear hA h2
      go_wp2_with fail
      refine kt.mono ?_
      rintro e w3 ⟨v3, us3, rfl, hrd3, ho3, hb3⟩
      obtain ⟨a3, c3, rfl⟩ := ho3.slice
      have HO3 : Hid (OwnN w3 w.heap.size (.slice a3 us3.length c3) us3) := ho3.mono hs1
      have HR3 : Hid (rd us3 = l) := hrd3
      clear ho3 hrd3 kt
      go_wp2
      exact bodyPost_ret (v := .tuple #[.slice a3 us3.length c3, .int .i64 er]) (by simp [results, Try.results23, go_sem]) rfl ⟨_, us3, rfl, HR3.out, HO3.out, bt hbl hb3⟩

set_option maxHeartbeats 1000000 in
theorem sameR_any (B : Nat) (u v : Value) (ts us : List Tr) (w : World) (hB : B ≤ w.heap.size) (hp : Parts w B u ts) (hq : Parts w B v us) (r : Bool) (hr : decide (rd ts = rd us) = r) :
    Calls Try.prog 8 #[u, v] w fun e w' => e = .returned (.bool r) ∧ Below w.heap.size w w' := by
  have HP : Hid (Parts w B u ts) := hp
  have HQ : Hid (Parts w B v us) := hq
  have HR : Hid (decide (rd ts = rd us) = r) := hr
  obtain ⟨a, c, rfl, hc, hl, _⟩ := hp
  obtain ⟨a2, c2, rfl, hc2, hl2, _⟩ := hq
  clear hr
  by_cases hlen : ts.length = us.length
  · have hle : (((ts.length : Int)) == (us.length : Int)) = true := by simp [hlen]
    have hle2 : (((ts.length : Int)) != (us.length : Int)) = false := by simp [hlen]
    have HLN : Hid (ts.length = us.length) := hlen
    clear hlen
    go_enter Try.func8, Try.ntmps8
    go_wp2
    go_loopw [13] (fun s wr => ∃ i : Nat, s = .int .i64 (i : Int) ∧ i ≤ ts.length ∧ (rd ts).take i = (rd us).take i ∧ Below w.heap.size w wr) (fun s _ => ts.length - (intOf s).toNat)
    case atStart => exact ⟨0, rfl, Nat.zero_le _, by simp, Below.refl _ _⟩
    case round =>
      obtain ⟨i, rfl, hit, htk, hbl⟩ := hrel
      have HT : Hid ((rd ts).take i = (rd us).take i) := htk
      clear htk
      by_cases h1 : i < ts.length
      · obtain ⟨b, o, sa, sc, xs, k, rfl, hb, hs, c1, c2', hI⟩ := HP.out.get hB hbl h1
        obtain ⟨b2, o2, sa2, sc2, xs2, k2, rfl, hb2, hs2, d1, d2, hI2⟩ := HQ.out.get hB hbl (i := i) (by have := HLN.out; omega)
        have HS : Hid ((rd ts)[i]? = some (xs, k)) := rd_get hs
        have HS2 : Hid ((rd us)[i]? = some (xs2, k2)) := rd_get hs2
        have HI : Hid (Ints wr B B (.slice sa xs.length sc) xs) := hI
        have HI2 : Hid (Ints wr B B (.slice sa2 xs2.length sc2) xs2) := hI2
        have hs1 := hbl.size
        have z0 : (0 : Int) ≤ (i : Int) := by omega
        have z1 : (i : Int) < (us.length : Int) := by have := HLN.out; omega
        have z2 : (i : Int) < (ts.length : Int) := by omega
        obtain ⟨r1, HC⟩ : ∃ r1, Hid (cmpT xs xs2 = r1) := ⟨_, rfl⟩
        clear hs hs2 hI hI2
        by_cases hk : k = k2
        · subst hk
          have hkk : (k != k) = false := by simp
          have hdd : decide (k = k) = true := decide_eq_true rfl
          by_cases he : r1 = 0
          · have hx : Hid (xs2 = xs) := ((cmpT_zero _ _).1 (HC.out.trans he)).symm
            subst he
            go_wp2_with fail
            go_quiet ((go_at_call 11; refine Calls.quiet_of (refCompare_any B B B _ _ xs xs2 _ ?_ ?_ 0 HC.out); exact HI.out.keep (below_drewN (Below.refl _ _) _); exact HI2.out.keep (below_drewN (Below.refl _ _) _)))
            go_wp2
            go_roundw
            case rel => exact ⟨i + 1, by go_num, h1, take_next HT.out HS.out (by rw [HS2.out, hx.out]), below_drewN hbl _⟩
            case measure => simp [intOf]; omega
          · have he' : (r1 != 0) = true := by simpa using he
            have hr1 : r = false := by
              rw [← HR.out]
              refine decide_eq_false fun h => he ?_
              have h2 := HS.out
              rw [h, HS2.out] at h2
              simp only [Option.some.injEq, Prod.mk.injEq] at h2
              rw [← HC.out, h2.1]; exact cmpT_self _
            subst hr1
            go_wp2_with fail
            go_quiet ((go_at_call 11; refine Calls.quiet_of (refCompare_any B B B _ _ xs xs2 _ ?_ ?_ r1 HC.out); exact HI.out.keep (below_drewN (Below.refl _ _) _); exact HI2.out.keep (below_drewN (Below.refl _ _) _)))
            go_wp2
            go_ret
            exact ⟨rfl, below_drewN hbl _⟩
        · have hkk : (k != k2) = true := by simpa using hk
          have hdd : decide (k = k2) = false := decide_eq_false hk
          have hr1 : r = false := by
            rw [← HR.out]
            refine decide_eq_false fun h => hk ?_
            have h2 := HS.out
            rw [h, HS2.out] at h2
            simp only [Option.some.injEq, Prod.mk.injEq] at h2
            exact h2.2.symm
          subst hr1
          go_wp2_with fail
          go_quiet (fail)
          go_wp2
          go_ret
          exact ⟨rfl, below_drewN hbl _⟩
      · have hr1 : r = true := by
          rw [← HR.out]
          refine decide_eq_true ?_
          have := HT.out
          rwa [rd_take_all (by omega), rd_take_all (by have := HLN.out; omega)] at this
        subst hr1
        go_wp2
        go_ret
        exact ⟨rfl, hbl⟩
  · have hle : (((ts.length : Int)) == (us.length : Int)) = false := by simp; omega
    have hle2 : (((ts.length : Int)) != (us.length : Int)) = true := by simp; omega
    have hr1 : r = false := by
      rw [← HR.out]
      refine decide_eq_false fun h => hlen ?_
      rw [← rd_len, h, rd_len]
    subst hr1
    go_enter Try.func8, Try.ntmps8
    go_wp2
    go_ret
    exact ⟨rfl, Below.refl _ _⟩

end Go.Proofs.Ytfcbkcoagoncoaa
