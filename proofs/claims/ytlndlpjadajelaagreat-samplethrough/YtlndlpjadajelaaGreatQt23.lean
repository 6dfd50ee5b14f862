import Derived.Test.YtlndlpjadajelaaGreatQt09
namespace Go.Proofs.YtlndlpjadajelaaGreat
open Go.RowKit Go.Proofs.YtlndlpjadajelaaGreat.Ds

set_option maxHeartbeats 1000000 in
theorem makeR_any (B : Nat) (v : Value) (ts : List Tr) (w : World) (hB : B ≤ w.heap.size) (hp : Parts w B v ts) (l : List Pt) (er : Int) (hr : makeT (rd ts) = (l, er)) :
    Calls Tryz.prog 109 #[v] w fun e w' => ∃ v' us, e = .returned (.tuple #[v', .int .i64 er]) ∧ rd us = l ∧ OwnN w' w.heap.size v' us ∧ Below w.heap.size w w' := by
  have HP : Hid (Parts w B v ts) := hp
  obtain ⟨a, c, rfl, hc, hl, _⟩ := hp
  have HR : Hid (makeT (rd ts) = (l, er)) := hr
  clear hr
  go_enter Tryz.func109, Tryz.ntmps109
  go_wp2
  go_loopw [8] (fun s wr => ∃ i : Nat, s = .int .i64 (i : Int) ∧ i ≤ ts.length ∧ ((rd ts).take i).all okP = true ∧ Below w.heap.size w wr) (fun s _ => ts.length - (intOf s).toNat)
  case atStart => exact ⟨0, rfl, Nat.zero_le _, by simp, Below.refl _ _⟩
  case round =>
    obtain ⟨i, rfl, hix, hall, hbl⟩ := hrel
    have HA : Hid (((rd ts).take i).all okP = true) := hall
    clear hall
    by_cases h1 : i < ts.length
    · obtain ⟨b, o, sa, sc, xs, k, rfl, hb, hs, c1, c2, hI⟩ := HP.out.get hB hbl h1
      have HZ : Hid ((rd ts)[i]? = some (xs, k)) := rd_get hs
      have HI : Hid (Ints wr B B (.slice sa xs.length sc) xs) := hI
      have hs1 := hbl.size
      clear hs hI
      have bad : okP (xs, k) = false → Hid (l = [] ∧ er = 3) := by
        intro h
        have h2 := HR.out
        rw [makeT, all_false HZ.out h] at h2
        simp only [Bool.false_eq_true, if_false, Prod.mk.injEq] at h2
        exact ⟨h2.1.symm, h2.2.symm⟩
      obtain ⟨r0, HO⟩ : ∃ r0, Hid (okO xs = r0) := ⟨_, rfl⟩
      have ks := fun W h => small_any B B (.slice sa xs.length sc) xs W h r0 HO.out
      cases r0 with
      | false =>
        obtain ⟨rfl, rfl⟩ := (bad (by unfold okP; rw [show okO (xs, k).1 = false from HO.out, Bool.and_false])).out
        clear bad
        go_wp2_with (go_at_call 170; refine (ks _ ?_).mono ?_; (exact HI.out.at (by omega) (ba _ _)); rintro e w1 ⟨rfl, rfl⟩)
        exact bodyPost_ret (v := .tuple #[.slice none 0 0, .int .i64 3]) (by simp [results, Tryz.results109, go_sem]) rfl ⟨_, [], rfl, rfl, .inl ⟨rfl, rfl⟩, bal hbl _⟩
      | true =>
        by_cases hk1 : k < 0
        · obtain ⟨rfl, rfl⟩ := (bad (by unfold okP; rw [show decide (0 ≤ (xs, k).2 ∧ (xs, k).2 ≤ 1073741824) = false from decide_eq_false (by simp; omega), Bool.false_and])).out
          clear bad
          go_wp2_with (go_at_call 170; refine (ks _ ?_).mono ?_; (exact HI.out.at (by omega) (ba _ _)); rintro e w1 ⟨rfl, rfl⟩)
          exact bodyPost_ret (v := .tuple #[.slice none 0 0, .int .i64 3]) (by simp [results, Tryz.results109, go_sem]) rfl ⟨_, [], rfl, rfl, .inl ⟨rfl, rfl⟩, bal hbl _⟩
        · by_cases hk2 : 1073741824 < k
          · obtain ⟨rfl, rfl⟩ := (bad (by unfold okP; rw [show decide (0 ≤ (xs, k).2 ∧ (xs, k).2 ≤ 1073741824) = false from decide_eq_false (by simp; omega), Bool.false_and])).out
            clear bad
            go_wp2_with (go_at_call 170; refine (ks _ ?_).mono ?_; (exact HI.out.at (by omega) (ba _ _)); rintro e w1 ⟨rfl, rfl⟩)
            exact bodyPost_ret (v := .tuple #[.slice none 0 0, .int .i64 3]) (by simp [results, Tryz.results109, go_sem]) rfl ⟨_, [], rfl, rfl, .inl ⟨rfl, rfl⟩, bal hbl _⟩
          · have HN : Hid (((rd ts).take (i + 1)).all okP = true) := by
              rw [Hid, all_take HZ.out, HA.out]
              unfold okP
              rw [show okO (xs, k).1 = true from HO.out, show decide (0 ≤ (xs, k).2 ∧ (xs, k).2 ≤ 1073741824) = true from decide_eq_true (by simp; omega)]
              rfl
            clear bad
            go_wp2_with (go_at_call 170; refine (ks _ ?_).mono ?_; (exact HI.out.at (by omega) (ba _ _)); rintro e w1 ⟨rfl, rfl⟩)
            go_roundw
            case rel => exact ⟨i + 1, by go_num, h1, HN.out, bal hbl _⟩
            case measure => simp [intOf]; omega
    · have hA : (rd ts).all okP = true := by have := HA.out; rwa [rd_take_all (by omega)] at this
      have h2 := HR.out
      rw [makeT, hA] at h2
      simp only [if_true] at h2
      have kt := tidy_any B _ ts wr (Nat.le_trans hB hbl.size) (HP.out.at hB hbl) (all_okP hA).1 (tot_ok hA (by rw [rd_len]; exact hl)) l er h2
      have hs1 := hbl.size
      clear hA h2
      go_wp2_with fail
      refine kt.mono ?_
      rintro e w3 ⟨v3, us3, rfl, hrd3, ho3, hb3⟩
      obtain ⟨a3, c3, rfl⟩ := ho3.slice
      have HO3 : Hid (OwnN w3 w.heap.size (.slice a3 us3.length c3) us3) := ho3.mono hs1
      have HR3 : Hid (rd us3 = l) := hrd3
      clear ho3 hrd3 kt
      go_wp2
      exact bodyPost_ret (v := .tuple #[.slice a3 us3.length c3, .int .i64 er]) (by simp [results, Tryz.results109, go_sem]) rfl ⟨_, us3, rfl, HR3.out, HO3.out, bt hbl hb3⟩

set_option maxHeartbeats 1000000 in
theorem sameR_any (B : Nat) (u v : Value) (ts us : List Tr) (w : World) (hB : B ≤ w.heap.size) (hp : Parts w B u ts) (hq : Parts w B v us) (r : Bool) (hr : decide (rd ts = rd us) = r) :
    Calls Tryz.prog 22 #[u, v] w fun e w' => e = .returned (.bool r) ∧ Below w.heap.size w w' := by
  have HP : Hid (Parts w B u ts) := hp
  have HQ : Hid (Parts w B v us) := hq
  have HR : Hid (decide (rd ts = rd us) = r) := hr
  obtain ⟨a, c, rfl, hc, hl, _⟩ := hp
  obtain ⟨a2, c2, rfl, hc2, hl2, _⟩ := hq
  clear hr
  by_cases hlen : ts.length = us.length
  · have hle : (((ts.length : Int)) == (us.length : Int)) = true := by simp [hlen]
    have hle2 : (((ts.length : Int)) != (us.length : Int)) = false := by simp [hlen]
    have HLN : Hid (ts.length = us.length) := hlen
    clear hlen
    go_enter Tryz.func22, Tryz.ntmps22
    go_wp2
    go_loopw [13] (fun s wr => ∃ i : Nat, s = .int .i64 (i : Int) ∧ i ≤ ts.length ∧ (rd ts).take i = (rd us).take i ∧ Below w.heap.size w wr) (fun s _ => ts.length - (intOf s).toNat)
    case atStart => exact ⟨0, rfl, Nat.zero_le _, by simp, Below.refl _ _⟩
    case round =>
      obtain ⟨i, rfl, hit, htk, hbl⟩ := hrel
      have HT : Hid ((rd ts).take i = (rd us).take i) := htk
      clear htk
      by_cases h1 : i < ts.length
      · obtain ⟨b, o, sa, sc, xs, k, rfl, hb, hs, c1, c2', hI⟩ := HP.out.get hB hbl h1
        obtain ⟨b2, o2, sa2, sc2, xs2, k2, rfl, hb2, hs2, d1, d2, hI2⟩ := HQ.out.get hB hbl (i := i) (by have := HLN.out; omega)
        have HS : Hid ((rd ts)[i]? = some (xs, k)) := rd_get hs
        have HS2 : Hid ((rd us)[i]? = some (xs2, k2)) := rd_get hs2
        have HI : Hid (Ints wr B B (.slice sa xs.length sc) xs) := hI
        have HI2 : Hid (Ints wr B B (.slice sa2 xs2.length sc2) xs2) := hI2
        have hs1 := hbl.size
        have z0 : (0 : Int) ≤ (i : Int) := by omega
        have z1 : (i : Int) < (us.length : Int) := by have := HLN.out; omega
        have z2 : (i : Int) < (ts.length : Int) := by omega
        obtain ⟨r1, HC⟩ : ∃ r1, Hid (cmpT xs xs2 = r1) := ⟨_, rfl⟩
        clear hs hs2 hI hI2
        by_cases hk : k = k2
        · subst hk
          have hkk : (k != k) = false := by simp
          have hdd : decide (k = k) = true := decide_eq_true rfl
          by_cases he : r1 = 0
          · have hx : Hid (xs2 = xs) := ((cmpT_zero _ _).1 (HC.out.trans he)).symm
            subst he
            go_wp2_with fail
            go_quiet ((go_at_call 58; refine Calls.quiet_of (refCompare_any B B B _ _ xs xs2 _ ?_ ?_ 0 HC.out); exact HI.out.keep (below_drewN (Below.refl _ _) _); exact HI2.out.keep (below_drewN (Below.refl _ _) _)))
            go_wp2
            go_roundw
            case rel => exact ⟨i + 1, by go_num, h1, take_next HT.out HS.out (by rw [HS2.out, hx.out]), below_drewN hbl _⟩
            case measure => simp [intOf]; omega
          · have he' : (r1 != 0) = true := by simpa using he
            have hr1 : r = false := by
              rw [← HR.out]
              refine decide_eq_false fun h => he ?_
              have h2 := HS.out
              rw [h, HS2.out] at h2
              simp only [Option.some.injEq, Prod.mk.injEq] at h2
              rw [← HC.out, h2.1]; exact cmpT_self _
            subst hr1
            go_wp2_with fail
            go_quiet ((go_at_call 58; refine Calls.quiet_of (refCompare_any B B B _ _ xs xs2 _ ?_ ?_ r1 HC.out); exact HI.out.keep (below_drewN (Below.refl _ _) _); exact HI2.out.keep (below_drewN (Below.refl _ _) _)))
            go_wp2
            go_ret
            exact ⟨rfl, below_drewN hbl _⟩
        · have hkk : (k != k2) = true := by simpa using hk
          have hdd : decide (k = k2) = false := decide_eq_false hk
          have hr1 : r = false := by
            rw [← HR.out]
            refine decide_eq_false fun h => hk ?_
            have h2 := HS.out
            rw [h, HS2.out] at h2
            simp only [Option.some.injEq, Prod.mk.injEq] at h2
            exact h2.2.symm
          subst hr1
          go_wp2_with fail
          go_quiet (fail)
          go_wp2
          go_ret
          exact ⟨rfl, below_drewN hbl _⟩
      · have hr1 : r = true := by
          rw [← HR.out]
          refine decide_eq_true ?_
          have := HT.out
          rwa [rd_take_all (by omega), rd_take_all (by have := HLN.out; omega)] at this
        subst hr1
        go_wp2
        go_ret
        exact ⟨rfl, hbl⟩
  · have hle : (((ts.length : Int)) == (us.length : Int)) = false := by simp; omega
    have hle2 : (((ts.length : Int)) != (us.length : Int)) = true := by simp; omega
    have hr1 : r = false := by
      rw [← HR.out]
      refine decide_eq_false fun h => hlen ?_
      rw [← rd_len, h, rd_len]
    subst hr1
    go_enter Tryz.func22, Tryz.ntmps22
    go_wp2
    go_ret
    exact ⟨rfl, Below.refl _ _⟩

end Go.Proofs.YtlndlpjadajelaaGreat

namespace Go.Proofs.YtlndlpjadajelaaGreat
open Go.RowKit Go.Proofs.YtlndlpjadajelaaGreat.Ds

set_option maxHeartbeats 2000000 in
set_option maxRecDepth 100000 in
theorem tidy_fr (B : Nat) (v : Value) (ts : List Tr) (w : World) (hB : B ≤ w.heap.size) (hp : Parts w B v ts) (hn : Nn (rd ts)) (hM : tot (rd ts) ≤ 4611686018427387904) (l : List Pt) (er : Int) (hr : lowT (gath (rd ts)) = (l, er)) :
    Calls Tryz.prog 111 #[v] w fun e w' => ∃ v' us, e = .returned (.tuple #[v', .int .i64 er]) ∧ rd us = l ∧ OwnN w' w.heap.size v' us ∧ Below w.heap.size w w' ∧ ∀ t ∈ us, ∃ u ∈ ts, u.1 = t.1 ∧ u.2.1 = t.2.1 := by
  have HP : Hid (Parts w B v ts) := hp
  obtain ⟨a, c, rfl, hc, hl, _⟩ := hp
  have HH : Hid (Nn (rd ts) ∧ tot (rd ts) ≤ 4611686018427387904 ∧ lowT (gath (rd ts)) = (l, er)) := ⟨hn, hM, hr⟩
  obtain ⟨i0, hi0, hz0, hz1, hz2⟩ := info_parts info32
  clear hn hM hr
  go_enter Tryz.func111, Tryz.ntmps111
  go_wp2_with fail
  refine (least_false B _ _ ts [] w hB HP.out (ints_nil w B B)).mono ?_
  rintro e w1 ⟨ov, f, rfl, hf, ⟨oa, on, oc, rfl⟩, hb1⟩
  have HN0 : Hid (Next ts [] (.slice oa on oc) f) := next_first hf
  clear hf
  go_wp2
  go_loopw [4, 5, 6] (fun dv ov fv wr => ∃ (ds : List Tr) (f : Bool) (oa : Option Addr) (on oc : Nat), fv = .bool f ∧ ov = .slice oa on oc ∧ Laid ts ds ∧ Next ts ds (.slice oa on oc) f ∧ wr.ownsRow w.heap.size 82 2 dv ds.length (flat ds) ∧ Below w.heap.size w wr) (fun dv _ _ _ => ts.length - slen dv)
  case atStart => exact ⟨[], f, oa, on, oc, rfl, rfl, Laid.nil ts, HN0.out, ⟨rfl, .inl ⟨rfl, rfl⟩⟩, hb1⟩
  case round =>
    obtain ⟨ds, f, oa, on, oc, rfl, rfl, hlaid, hnext, hown, hbl⟩ := hrel
    have HL : Hid (Laid ts ds) := hlaid
    have HO : Hid (wr.ownsRow w.heap.size 82 2 u4 ds.length (flat ds)) := hown
    have HX : Hid (Next ts ds (.slice oa on oc) f) := hnext
    obtain ⟨da, dc, rfl⟩ := owns_slice hown
    have hs1 := hbl.size
    clear hlaid hnext hown
    cases f with
    | true =>
      obtain ⟨⟨tv, xs, k⟩, ht, he, hk, habv, hmin⟩ : ∃ t ∈ ts, .slice oa on oc = t.1 ∧ 0 < t.2.2 ∧ Abv (rd ds) t.2.1 ∧ ∀ u ∈ ts, 0 < u.2.2 → Abv (rd ds) u.2.1 → ¬ ltL u.2.1 t.2.1 := by
        rcases HX.out with ⟨h, _⟩ | ⟨_, h⟩
        · cases h
        · exact h
      simp only at he
      subst he
      have hdl : ds.length < ts.length := by
        obtain ⟨rest, h1, h2⟩ := HL.out.len
        have := h2 _ ht hk habv
        have : 0 < rest.length := List.length_pos_of_mem this
        omega
      have HI : Hid (Ints wr B B (.slice oa on oc) xs) := HP.out.elem hB hbl ht
      obtain ⟨K, hK⟩ : ∃ K, wt (rd ts) xs = K := ⟨_, rfl⟩
      have HL2 : Hid (Laid ts (ds ++ [(.slice oa on oc, xs, K)])) := by rw [Hid, ← hK]; exact HL.out.more HH.out.1 ht hk habv hmin
      have kw := weight_any B B (.slice a ts.length c) (.slice oa on oc) ts xs wr (by omega) (HP.out.at hB hbl) HI.out HH.out.1 HH.out.2.1 K hK
      have HT : Hid ((.slice oa on oc, xs, k) ∈ ts) := ht
      clear ht habv hmin hk hK
      go_wp2_with fail
      refine kw.mono ?_
      rintro e w2 ⟨rfl, hb2⟩
      have HO2 : Hid ((w2.alloc (.cells #[.slice oa on oc, .int .i64 K] 82)).ownsRow w.heap.size 82 2 (.slice da ds.length dc) ds.length (flat ds)) := owns_below HO.out (bal hb2 _)
      have hs2 := hb2.size
      have hbw2 : Below w.heap.size w w2 := bt hbl hb2
      clear kw
      go_wp2_with (at_builtin; refine wpList_append_own _ rfl _ _ 44 rfl w.heap.size 82 i0 (.agg #[.slice none 0 0, .int .i64 0]) 2 32 Tryz.underlying44 hi0 hz0 hz1 hz2 rfl (by decide) _ _ _ rfl HO2.out ⟨w2.heap.size, 0, none⟩ 1 1 [.slice oa on oc, .int .i64 K] rfl ?q1 ?q2 ?q3 ?q4 ?q5 ?q6 ?_)
      case q1 => rfl
      case q2 =>
        intro j u hj
        match j, hj with
        | 0, hj => simp at hj; subst hj; simp [go_sem, Addr.add]
        | 1, hj => simp at hj; subst hj; simp [go_sem, Addr.add]
      case q3 => intro u hu; simp at hu; rcases hu with rfl | rfl <;> rfl
      case q4 => simp [maxLen]; omega
      case q5 => omega
      case q6 => simp; omega
      intro v3 w3 hown3 hgrow hnil
      have HO3 : Hid (w3.ownsRow w.heap.size 82 2 v3 (ds ++ [((.slice oa on oc, xs, K) : Tr)]).length (flat (ds ++ [(.slice oa on oc, xs, K)]))) := by
        rw [Hid, ← flat_snoc]
        simpa using hown3
      have hbw3 : Below w.heap.size w w3 := (bal hbw2 _).grown hgrow (by simp; omega) (owns_block HO2.out)
      obtain ⟨a3, c3, rfl⟩ := owns_slice HO3.out
      clear hown3 hgrow hnil
      go_wp2_with fail
      refine (least_true B _ _ ts xs w3 (Nat.le_trans hB hbw3.size) (HP.out.at hB hbw3) (HP.out.elem hB hbw3 HT.out)).mono ?_
      rintro e w4 ⟨ov4, f4, rfl, hf4, ⟨oa4, on4, oc4, rfl⟩, hb4⟩
      have HX4 : Hid (Next ts (ds ++ [(.slice oa on oc, xs, K)]) (.slice oa4 on4 oc4) f4) := next_more HL2.out.rise hf4
      have HO4 : Hid (w4.ownsRow w.heap.size 82 2 (.slice a3 (ds ++ [((.slice oa on oc, xs, K) : Tr)]).length c3) (ds ++ [((.slice oa on oc, xs, K) : Tr)]).length (flat (ds ++ [(.slice oa on oc, xs, K)]))) := owns_below HO3.out hb4
      clear hf4
      go_wp2
      go_roundw
      case rel => exact ⟨_, f4, oa4, on4, oc4, rfl, rfl, HL2.out, HX4.out, by simpa using HO4.out, bt hbw3 hb4⟩
      case measure => simp [slen]; omega
    | false =>
      have HG : Hid (gath (rd ts) = rd ds) := HL.out.done HH.out.1 HX.out
      have hlow := HH.out.2.2
      rw [HG.out] at hlow
      by_cases hd0 : ds = []
      · subst hd0
        obtain ⟨rfl, rfl⟩ : l = [] ∧ er = 6 := by simp [lowT, rd] at hlow; exact ⟨hlow.1, hlow.2.symm⟩
        clear hlow HO HX HL HG
        go_wp2
        exact bodyPost_ret (v := .tuple #[.slice none 0 0, .int .i64 6]) (by simp [results, Tryz.results111, go_sem]) rfl ⟨_, [], rfl, rfl, .inl ⟨rfl, rfl⟩, hbl, fun t ht => by cases ht⟩
      · have hpos : 0 < ds.length := by cases ds with | nil => exact absurd rfl hd0 | cons _ _ => simp
        obtain ⟨g, cap, hv, hcap, hgb, hrow⟩ := row_of_owns rfl HO.out (by intro h; simp only [Value.slice.injEq] at h; omega)
        simp only [Value.slice.injEq, true_and] at hv
        obtain ⟨rfl, rfl⟩ := hv
        have hdl : ds.length ≤ 1073741824 := by obtain ⟨rest, h1, _⟩ := HL.out.len; omega
        have HSRC : Hid (∀ t ∈ ds, ∃ u ∈ ts, u.1 = t.1 ∧ u.2.1 = t.2.1) := HL.out.src
        have hpz : Pos (rd ds) := fun q hq => (HL.out.wts q hq).2
        have htz : tot (rd ds) ≤ 4611686018427387904 := by rw [← HG.out, gath_tot]; exact HH.out.2.1
        have hI : ∀ t ∈ ds, Ints wr wr.heap.size g t.1 t.2.1 := by
          intro d hd
          obtain ⟨t, ht, e1, e2⟩ := HL.out.src d hd
          rw [← e1, ← e2]
          exact (HP.out.elem hB hbl ht).mono (Nat.le_trans hB hbl.size) (.inr (by omega))
        have HD : Hid (Row wr g 0 ds ∧ (∀ t ∈ ds, Ints wr wr.heap.size g t.1 t.2.1) ∧ Pos (rd ds) ∧ tot (rd ds) ≤ 4611686018427387904 ∧ lowT (rd ds) = (l, er)) := ⟨hrow, hI, hpz, htz, hlow⟩
        have hgl := hrow.lt
        obtain ⟨⟨s0, x0, k0⟩, hs0⟩ := get_lt hpos
        obtain ⟨a0, b0⟩ := hrow.cells 0 _ hs0
        simp only [Nat.zero_mul, Nat.zero_add] at a0 b0
        have hk0 : 0 < k0 := hpz (x0, k0) (List.mem_of_getElem? (rd_get hs0))
        have hk1 : k0 ≤ 4611686018427387904 := by have := Pos.le_tot (Nn.of_pos hpz) (List.mem_of_getElem? (rd_get hs0)); simp only at this; omega
        obtain ⟨m0, rfl⟩ := Int.eq_ofNat_of_zero_le (Int.le_of_lt hk0)
        have HM0 : Hid ((x0, (m0 : Int)) ∈ rd ds) := List.mem_of_getElem? (rd_get hs0)
        have hz0' : ((ds.length : Int) == 0) = false := by simp; exact hd0
        have y0 : (0 : Int) < (ds.length : Int) := by omega
        clear hlow HO HX HL HG hrow hI hpz htz hs0 hd0
        go_wp2
        go_loopw [7, 40] (fun s u wq => ∃ (i q : Nat), s = .int .i64 (q : Int) ∧ u = .int .i64 (i : Int) ∧ i ≤ ds.length ∧ Nat.gcd (dvF 0 ((rd ds).take i)) m0 = q ∧ Below wr.heap.size wr wq) (fun _ u _ => ds.length - (intOf u).toNat)
        case atStart => exact ⟨0, m0, rfl, rfl, Nat.zero_le _, by simp [dvF], Below.refl _ _⟩
        case round =>
          obtain ⟨i, q, rfl, rfl, hit, hq, hbq⟩ := hrel
          have HQ : Hid (Nat.gcd (dvF 0 ((rd ds).take i)) m0 = q) := hq
          have hq1 : 1 ≤ q := by rw [← hq]; exact Nat.gcd_pos_of_pos_right _ (by omega)
          have hq2 : q ≤ m0 := by rw [← hq]; exact Nat.le_of_dvd (by omega) (Nat.gcd_dvd_right _ _)
          clear hq
          by_cases h1 : i < ds.length
          · obtain ⟨⟨s, xs, k⟩, hs⟩ := get_lt h1
            obtain ⟨sa, sc, he, _⟩ := HD.out.2.1 _ (List.mem_of_getElem? hs)
            simp only at he
            subst he
            obtain ⟨c1, c2⟩ := HD.out.1.cells.get hbq hgl hs
            simp only [Nat.zero_add] at c1 c2
            have HZ : Hid ((rd ds)[i]? = some (xs, k)) := rd_get hs
            have hk0' : 0 < k := HD.out.2.2.1 (xs, k) (List.mem_of_getElem? HZ.out)
            have hk1' : k ≤ 4611686018427387904 := by
              have h1 := Pos.le_tot (Nn.of_pos HD.out.2.2.1) (List.mem_of_getElem? HZ.out)
              have h3 := HD.out.2.2.2.1
              simp only at h1
              omega
            obtain ⟨m, rfl⟩ := Int.eq_ofNat_of_zero_le (Int.le_of_lt hk0')
            have kc := fun W => refDivisor_any m q (by omega) hq1 (by omega) W
            have HN : Hid (Nat.gcd (dvF 0 ((rd ds).take (i + 1))) m0 = Nat.gcd m q) := by
              rw [Hid, dvF_take HZ.out, ← HQ.out]
              simp only [Int.natAbs_natCast]
              rw [Nat.gcd_comm _ m, Nat.gcd_assoc]
            clear hs
            go_wp2_with (go_at_call 56; refine (kc _).mono ?_; rintro e w1 ⟨rfl, rfl⟩)
            go_roundw
            case rel => exact ⟨i + 1, Nat.gcd m q, rfl, by go_num, h1, HN.out, bal hbq _⟩
            case measure => simp [intOf]; omega
          · have hgd : q = dv (rd ds) := by
              rw [← HQ.out, rd_take_all (by omega), dvF_eq, Nat.gcd_zero_left]
              exact Nat.gcd_eq_left (by have := dv_dvd HM0.out; simpa using this)
            have HDV : Hid (q = dv (rd ds)) := hgd
            have HR : Hid (Row wr g 0 ds) := HD.out.1.keep hbq
            have HI : Hid (∀ t ∈ ds, Ints wr wr.heap.size g t.1 t.2.1) := fun t ht => (HD.out.2.1 t ht).at2 hbq
            have hbwq : Below w.heap.size w wr := bt hbl hbq
            have hglq : g < wr.heap.size := HR.out.lt
            obtain ⟨T, hT⟩ : ∃ T, tot (rd ds) = T := ⟨_, rfl⟩
            have hT0 : 0 ≤ T := by rw [← hT]; exact (Nn.of_pos HD.out.2.2.1).tot_nn
            have hT1 : T ≤ 4611686018427387904 := by rw [← hT]; exact HD.out.2.2.2.1
            obtain ⟨tn, rfl⟩ := Int.eq_ofNat_of_zero_le hT0
            have hown0 : Own wr w.heap.size (.slice (some ⟨g, 0, none⟩) ds.length dc) ds := ⟨g, 0, dc, rfl, hcap, hdl, hgb, HR.out, HI.out⟩
            have kt := refTotal_any wr.heap.size _ ds wr (Nat.le_refl _) hown0.parts (Nn.of_pos HD.out.2.2.1) (by rw [hT]; exact hT1) (tn : Int) hT
            have hcutT : tot (cut (dv (rd ds)) (rd ds)) = (tn : Int) / (q : Int) := by rw [cut_tot fun p hp => dv_dvd_int hp, hT, hgd]
            have hlow := HD.out.2.2.2.2
            have hne : rd ds ≠ [] := by intro h; rw [← rd_len, h] at hpos; simp at hpos
            rw [lowT, if_neg hne, hcutT, rd_len] at hlow
            have HL : Hid ((if 1073741824 < (tn : Int) / (q : Int) ∨ 4096 < ds.length then ([], 4) else (cut (dv (rd ds)) (rd ds), (0 : Int))) = (l, er)) := hlow
            have hgz : ((q : Int) == 0) = false := by simp; omega
            have hd1 : (tn : Int) / (q : Int) ≤ 4611686018427387904 := Int.le_trans (Int.ediv_le_self _ (by omega)) hT1
            have hd0 : 0 ≤ (tn : Int) / (q : Int) := Int.ediv_nonneg (by omega) (by omega)
            obtain ⟨D, hD⟩ : ∃ D, (tn : Int) / (q : Int) = D := ⟨_, rfl⟩
            rw [hD] at HL hd1 hd0
            clear hlow hcutT hne hT hown0 hgd HQ
            by_cases hm : 1073741824 < D
            · have hl2 := HL.out
              rw [if_pos (.inl hm)] at hl2
              simp only [Prod.mk.injEq] at hl2
              obtain ⟨rfl, rfl⟩ := hl2
              go_wp2_with (go_at_call 55; refine kt.mono ?_; rintro e w1 ⟨rfl, hb1⟩)
              exact bodyPost_ret (v := .tuple #[.slice none 0 0, .int .i64 4]) (by simp [results, Tryz.results111, go_sem]) rfl ⟨_, [], rfl, rfl, .inl ⟨rfl, rfl⟩, bt hbwq hb1, fun t ht => by cases ht⟩
            · by_cases hm2 : 4096 < ds.length
              · have hl2 := HL.out
                rw [if_pos (.inr hm2)] at hl2
                simp only [Prod.mk.injEq] at hl2
                obtain ⟨rfl, rfl⟩ := hl2
                go_wp2_with (go_at_call 55; refine kt.mono ?_; rintro e w1 ⟨rfl, hb1⟩)
                exact bodyPost_ret (v := .tuple #[.slice none 0 0, .int .i64 4]) (by simp [results, Tryz.results111, go_sem]) rfl ⟨_, [], rfl, rfl, .inl ⟨rfl, rfl⟩, bt hbwq hb1, fun t ht => by cases ht⟩
              · have hl2 := HL.out
                rw [if_neg (by intro h; rcases h with h | h <;> omega)] at hl2
                simp only [Prod.mk.injEq] at hl2
                obtain ⟨hl2, rfl⟩ := hl2
                have HL2 : Hid (cut (dv (rd ds)) (rd ds) = l) := hl2
                clear hl2
                go_wp2_with (go_at_call 55; refine kt.mono ?_; rintro e w1 ⟨rfl, hb1⟩)
                have HR1 : Hid (Row w1 g 0 ds) := HR.out.keep hb1
                have HI1 : Hid (∀ t ∈ ds, Ints w1 w1.heap.size g t.1 t.2.1) := fun t ht => (HI.out t ht).at2 hb1
                have hbw1 : Below w.heap.size w w1 := bt hbwq hb1
                clear kt hD
                go_loopw [61] (fun u wz => ∃ j : Nat, u = .int .i64 (j : Int) ∧ j ≤ ds.length ∧ Row wz g 0 (cutI q ds j) ∧ (∀ t ∈ ds, Ints wz wz.heap.size g t.1 t.2.1) ∧ Below w.heap.size w wz) (fun u _ => ds.length - (intOf u).toNat)
                case atStart => exact ⟨0, rfl, Nat.zero_le _, by rw [cutI_zero]; exact HR1.out, HI1.out, hbw1⟩
                case round =>
                  obtain ⟨j, rfl, hjt, hrow, hints, hbz⟩ := hrel
                  have HR2 : Hid (Row wr g 0 (cutI q ds j)) := hrow
                  have HI2 : Hid (∀ t ∈ ds, Ints wr wr.heap.size g t.1 t.2.1) := hints
                  clear hrow hints
                  by_cases h2 : j < ds.length
                  · obtain ⟨⟨s, xs, k⟩, hs⟩ := get_lt h2
                    have hs2 : (cutI q ds j)[j]? = some (s, xs, k) := by rw [cutI_get _ h2]; exact hs
                    obtain ⟨c1, c2⟩ := HR2.out.cells j _ hs2
                    have c3 := HR2.out.thaw (j * 2 + 1) (by rw [cutI_len]; omega)
                    simp only [Nat.zero_add] at c1 c2 c3
                    have hk0' : 0 < k := HD.out.2.2.1 (xs, k) (List.mem_of_getElem? (rd_get hs))
                    have hk1' : k ≤ 4611686018427387904 := by
                      have h1 := Pos.le_tot (Nn.of_pos HD.out.2.2.1) (List.mem_of_getElem? (rd_get hs))
                      have h3 := HD.out.2.2.2.1
                      simp only at h1
                      omega
                    obtain ⟨m, rfl⟩ := Int.eq_ofNat_of_zero_le (Int.le_of_lt hk0')
                    have hdv : ((m : Int) / (q : Int)) ≤ 4611686018427387904 := Int.le_trans (Int.ediv_le_self _ (by omega)) hk1'
                    have hdv0 : 0 ≤ ((m : Int) / (q : Int)) := Int.ediv_nonneg (by omega) (by omega)
                    have HR3 : Hid (Row (wr.setCell ⟨g, j * 2 + 1, none⟩ (.int .i64 ((m : Int) / (q : Int)))) g 0 (cutI q ds (j + 1))) := by
                      have := HR2.out.setW hs2 ((m : Int) / (q : Int))
                      rw [show (cutI q ds j).set j (s, xs, (m : Int) / (q : Int)) = cutI q ds (j + 1) from cutI_set q hs, Nat.zero_add] at this
                      exact this
                    clear hs hs2
                    go_wp2
                    go_roundw
                    case rel => exact ⟨j + 1, by go_num, h2, HR3.out, fun t ht => by simpa using (HI2.out t ht).set rfl _, hbz.setCell (by simp; omega) _⟩
                    case measure => simp [intOf]; omega
                  · have hj : j = ds.length := by omega
                    subst hj
                    have hcut : rd (cutI q ds ds.length) = l := by rw [cutI_all, HDV.out, HL2.out]
                    have hI3 : ∀ t ∈ cutI q ds ds.length, Ints wr wr.heap.size g t.1 t.2.1 := by
                      intro t ht
                      obtain ⟨u, hu, e1, e2⟩ := cutI_mem ht
                      rw [e1, e2]
                      exact HI2.out u hu
                    have HOO : Hid (Own wr w.heap.size (.slice (some ⟨g, 0, none⟩) ds.length dc) (cutI q ds ds.length)) := ⟨g, 0, dc, by rw [cutI_len], by rw [cutI_len]; exact hcap, by rw [cutI_len]; exact hdl, hgb, HR2.out, hI3⟩
                    have HCU : Hid (rd (cutI q ds ds.length) = l) := hcut
                    clear hcut hI3
                    go_wp2
                    exact bodyPost_ret (v := .tuple #[.slice (some ⟨g, 0, none⟩) ds.length dc, .int .i64 0]) (by simp [results, Tryz.results111, go_sem]) rfl ⟨_, _, rfl, HCU.out, .inr HOO.out, hbz, fun t ht => by obtain ⟨d, hd, e1, e2⟩ := cutI_mem ht; obtain ⟨u, hu, f1, f2⟩ := HSRC.out d hd; exact ⟨u, hu, f1.trans e1.symm, f2.trans e2.symm⟩⟩

set_option maxHeartbeats 1000000 in
theorem makeR_fr (B : Nat) (v : Value) (ts : List Tr) (w : World) (hB : B ≤ w.heap.size) (hp : Parts w B v ts) (l : List Pt) (er : Int) (hr : makeT (rd ts) = (l, er)) :
    Calls Tryz.prog 109 #[v] w fun e w' => ∃ v' us, e = .returned (.tuple #[v', .int .i64 er]) ∧ rd us = l ∧ OwnN w' w.heap.size v' us ∧ Below w.heap.size w w' ∧ ∀ t ∈ us, ∃ u ∈ ts, u.1 = t.1 ∧ u.2.1 = t.2.1 := by
  have HP : Hid (Parts w B v ts) := hp
  obtain ⟨a, c, rfl, hc, hl, _⟩ := hp
  have HR : Hid (makeT (rd ts) = (l, er)) := hr
  clear hr
  go_enter Tryz.func109, Tryz.ntmps109
  go_wp2
  go_loopw [8] (fun s wr => ∃ i : Nat, s = .int .i64 (i : Int) ∧ i ≤ ts.length ∧ ((rd ts).take i).all okP = true ∧ Below w.heap.size w wr) (fun s _ => ts.length - (intOf s).toNat)
  case atStart => exact ⟨0, rfl, Nat.zero_le _, by simp, Below.refl _ _⟩
  case round =>
    obtain ⟨i, rfl, hix, hall, hbl⟩ := hrel
    have HA : Hid (((rd ts).take i).all okP = true) := hall
    clear hall
    by_cases h1 : i < ts.length
    · obtain ⟨b, o, sa, sc, xs, k, rfl, hb, hs, c1, c2, hI⟩ := HP.out.get hB hbl h1
      have HZ : Hid ((rd ts)[i]? = some (xs, k)) := rd_get hs
      have HI : Hid (Ints wr B B (.slice sa xs.length sc) xs) := hI
      have hs1 := hbl.size
      clear hs hI
      have bad : okP (xs, k) = false → Hid (l = [] ∧ er = 3) := by
        intro h
        have h2 := HR.out
        rw [makeT, all_false HZ.out h] at h2
        simp only [Bool.false_eq_true, if_false, Prod.mk.injEq] at h2
        exact ⟨h2.1.symm, h2.2.symm⟩
      obtain ⟨r0, HO⟩ : ∃ r0, Hid (okO xs = r0) := ⟨_, rfl⟩
      have ks := fun W h => small_any B B (.slice sa xs.length sc) xs W h r0 HO.out
      cases r0 with
      | false =>
        obtain ⟨rfl, rfl⟩ := (bad (by unfold okP; rw [show okO (xs, k).1 = false from HO.out, Bool.and_false])).out
        clear bad
        go_wp2_with (go_at_call 170; refine (ks _ ?_).mono ?_; (exact HI.out.at (by omega) (ba _ _)); rintro e w1 ⟨rfl, rfl⟩)
        exact bodyPost_ret (v := .tuple #[.slice none 0 0, .int .i64 3]) (by simp [results, Tryz.results109, go_sem]) rfl ⟨_, [], rfl, rfl, .inl ⟨rfl, rfl⟩, bal hbl _, fun t ht => by cases ht⟩
      | true =>
        by_cases hk1 : k < 0
        · obtain ⟨rfl, rfl⟩ := (bad (by unfold okP; rw [show decide (0 ≤ (xs, k).2 ∧ (xs, k).2 ≤ 1073741824) = false from decide_eq_false (by simp; omega), Bool.false_and])).out
          clear bad
          go_wp2_with (go_at_call 170; refine (ks _ ?_).mono ?_; (exact HI.out.at (by omega) (ba _ _)); rintro e w1 ⟨rfl, rfl⟩)
          exact bodyPost_ret (v := .tuple #[.slice none 0 0, .int .i64 3]) (by simp [results, Tryz.results109, go_sem]) rfl ⟨_, [], rfl, rfl, .inl ⟨rfl, rfl⟩, bal hbl _, fun t ht => by cases ht⟩
        · by_cases hk2 : 1073741824 < k
          · obtain ⟨rfl, rfl⟩ := (bad (by unfold okP; rw [show decide (0 ≤ (xs, k).2 ∧ (xs, k).2 ≤ 1073741824) = false from decide_eq_false (by simp; omega), Bool.false_and])).out
            clear bad
            go_wp2_with (go_at_call 170; refine (ks _ ?_).mono ?_; (exact HI.out.at (by omega) (ba _ _)); rintro e w1 ⟨rfl, rfl⟩)
            exact bodyPost_ret (v := .tuple #[.slice none 0 0, .int .i64 3]) (by simp [results, Tryz.results109, go_sem]) rfl ⟨_, [], rfl, rfl, .inl ⟨rfl, rfl⟩, bal hbl _, fun t ht => by cases ht⟩
          · have HN : Hid (((rd ts).take (i + 1)).all okP = true) := by
              rw [Hid, all_take HZ.out, HA.out]
              unfold okP
              rw [show okO (xs, k).1 = true from HO.out, show decide (0 ≤ (xs, k).2 ∧ (xs, k).2 ≤ 1073741824) = true from decide_eq_true (by simp; omega)]
              rfl
            clear bad
            go_wp2_with (go_at_call 170; refine (ks _ ?_).mono ?_; (exact HI.out.at (by omega) (ba _ _)); rintro e w1 ⟨rfl, rfl⟩)
            go_roundw
            case rel => exact ⟨i + 1, by go_num, h1, HN.out, bal hbl _⟩
            case measure => simp [intOf]; omega
    · have hA : (rd ts).all okP = true := by have := HA.out; rwa [rd_take_all (by omega)] at this
      have h2 := HR.out
      rw [makeT, hA] at h2
      simp only [if_true] at h2
      have kt := tidy_fr B _ ts wr (Nat.le_trans hB hbl.size) (HP.out.at hB hbl) (all_okP hA).1 (tot_ok hA (by rw [rd_len]; exact hl)) l er h2
      have hs1 := hbl.size
      clear hA h2
      go_wp2_with fail
      refine kt.mono ?_
      rintro e w3 ⟨v3, us3, rfl, hrd3, ho3, hb3, hsrc⟩
      have HSRC : Hid (∀ t ∈ us3, ∃ u ∈ ts, u.1 = t.1 ∧ u.2.1 = t.2.1) := hsrc
      clear hsrc
      obtain ⟨a3, c3, rfl⟩ := ho3.slice
      have HO3 : Hid (OwnN w3 w.heap.size (.slice a3 us3.length c3) us3) := ho3.mono hs1
      have HR3 : Hid (rd us3 = l) := hrd3
      clear ho3 hrd3 kt
      go_wp2
      exact bodyPost_ret (v := .tuple #[.slice a3 us3.length c3, .int .i64 er]) (by simp [results, Tryz.results109, go_sem]) rfl ⟨_, us3, rfl, HR3.out, HO3.out, bt hbl hb3, HSRC.out⟩
end Go.Proofs.YtlndlpjadajelaaGreat
