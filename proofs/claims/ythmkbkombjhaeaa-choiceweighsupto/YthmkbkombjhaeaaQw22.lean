import Derived.Test.YthmkbkombjhaeaaQw09
import Derived.Test.YthmkbkombjhaeaaQw13
import Derived.Test.YthmkbkombjhaeaaQw17
namespace Go.Proofs.Ythmkbkombjhaeaa
open Go.RowKit Go.Proofs.Ythmkbkombjhaeaa.Ds

/-- numbers of some weights, as far as one has come -/
def numP (ws : List Int) : List Pt := (List.range ws.length).map fun (i : Nat) => ([(i : Int)], ws.getD i 0)
theorem num_take {ws : List Int} {i : Nat} {x : Int} (h : ws[i]? = some x) : (numP ws)[i]? = some ([(i : Int)], x) := by
  have hi := (List.getElem?_eq_some_iff.1 h).1
  have e : ws[i] = x := (List.getElem?_eq_some_iff.1 h).2
  simp [numP, hi, List.getD, e]
theorem num_plen (ws : List Int) : (numP ws).length = ws.length := by simp [numP]

set_option maxHeartbeats 1000000 in
set_option maxRecDepth 100000 in
theorem numbered_fr (B : Nat) (v : Value) (ws : List Int) (w : World) (h : Num w B v ws) (hB : B ≤ w.heap.size) (hl8 : ws.length ≤ 8) (l : List Pt) (er : Int) (hr : makeT (numP ws) = (l, er)) :
    Calls Try.prog 26 #[v] w fun e w' => ∃ v' us, e = .returned (.tuple #[v', .int .i64 er]) ∧ rd us = l ∧ OwnN w' w.heap.size v' us ∧ Below w.heap.size w w' ∧ Frs w.heap.size us := by
  have HN : Hid (Num w B v ws) := h
  have HR : Hid (makeT (numP ws) = (l, er)) := hr
  obtain ⟨a, c, rfl, hc, hl, _⟩ := h
  obtain ⟨i0, hi, hz0, hz1, hz2⟩ := info_parts info32
  have hmk : ∀ u : World, (Instr.makeSlice 25 (.int .i64 (ws.length : Int)) (.int .i64 (ws.length : Int))).run Try.prog u =
      .ok (.slice (some ⟨u.heap.size, 0, none⟩) ws.length ws.length) (u.alloc (.cells (madeCells #[.slice none 0 0, .int .i64 0] (ws.length * 2)) 55)) := fun u => by
    have h := run_make (P := Try.prog) u 25 55 i0 (.agg #[.slice none 0 0, .int .i64 0]) Try.underlying25 hi hz0 .i64 .i64 (ws.length : Int) (ws.length : Int) (by omega) (Int.le_refl _) (by rw [hz2]; omega) (by omega)
    rw [Int.toNat_natCast] at h
    simpa [hz1, Value.cells] using h
  clear hr
  go_enter Try.func26, Try.ntmps26
  go_wp2
  go_loopw [12] (fun s wr => ∃ (i : Nat) (us : List Tr), s = .int .i64 (i : Int) ∧ i ≤ ws.length ∧ us.length = ws.length ∧ Hid ((rd us).take i = (numP ws).take i) ∧ Hid (Row wr w.heap.size 0 us) ∧ Hid (∀ t ∈ us, Ints wr wr.heap.size w.heap.size t.1 t.2.1) ∧ Below w.heap.size w wr ∧ Hid (Frs w.heap.size us)) (fun s _ => ws.length - (intOf s).toNat)
  case atStart =>
    refine ⟨0, List.replicate ws.length no, rfl, Nat.zero_le _, by simp, (by show _ = _; simp), row_made _ _, fun t ht => ?_, ba _ _, fun t ht hne => ?_⟩
    · rw [List.eq_of_mem_replicate ht]
      exact ints_nil _ _ _
    · rw [List.eq_of_mem_replicate ht] at hne
      exact absurd rfl hne
  case round =>
    obtain ⟨i, us, rfl, hit, hul, HT, HRow, HI, hbl, HFR⟩ := hrel
    have HU : Hid (us.length = ws.length) := hul
    by_cases h1 : i < ws.length
    · obtain ⟨b, o, c', x, he, _, hbB, hx, hcx⟩ := (HN.out.at hB hbl).get h1
      simp only [Value.slice.injEq] at he
      obtain ⟨rfl, -, rfl⟩ := he
      obtain ⟨t0, ht0⟩ := get_lt (l := us) (i := i) (by omega)
      have r1 := HRow.out.cells i t0 ht0
      have r2 := HRow.out.thaw (i * 2) (by omega)
      have r3 := HRow.out.thaw (i * 2 + 1) (by omega)
      have hlt := HRow.out.lt
      obtain ⟨r4, r5⟩ := r1
      simp only [Nat.zero_add] at r2 r3 r4 r5
      obtain ⟨v0, hv0⟩ : ∃ v0, t0.1 = v0 := ⟨_, rfl⟩
      rw [hv0] at r4
      have HX : Hid (ws[i]? = some x) := hx
      have hbB2 : b < wr.heap.size := by have := hbl.size; omega
      clear hul ht0 hv0 hx
      go_wp2
      go_roundw
      case rel =>
        obtain ⟨W, hW⟩ : ∃ W, (wr.setCell ⟨w.heap.size, i * 2, none⟩ (.slice (some ⟨wr.heap.size, 0, none⟩) 1 1)).setCell ⟨w.heap.size, i * 2 + 1, none⟩ (.int .i64 x) = W := ⟨_, rfl⟩
        have hWs : W.heap.size = wr.heap.size := by rw [← hW]; simp
        have hWR : Row W w.heap.size 0 (us.set i (.slice (some ⟨wr.heap.size, 0, none⟩) 1 1, [(i : Int)], x)) := by
          rw [← hW]; exact HRow.out.set0 (by rw [HU.out]; exact h1) (.slice (some ⟨wr.heap.size, 0, none⟩) 1 1) [(i : Int)] x
        have hWI : ∀ t ∈ us, Ints W W.heap.size w.heap.size t.1 t.2.1 := by
          intro t ht
          have := ((HI.out t ht).set (p := ⟨w.heap.size, i * 2, none⟩) rfl (.slice (some ⟨wr.heap.size, 0, none⟩) 1 1)).set (p := ⟨w.heap.size, i * 2 + 1, none⟩) rfl (.int .i64 x)
          rw [hW, ← hWs] at this
          exact this
        have hWB : Below w.heap.size w W := by rw [← hW]; exact bs (bs hbl (Nat.le_refl _) _) (Nat.le_refl _) _
        rw [hW]
        refine ⟨i + 1, us.set i (.slice (some ⟨wr.heap.size, 0, none⟩) 1 1, [(i : Int)], x), by go_num, h1, by simp [HU.out], ?_, hWR.keep (ba _ _), fun t ht => ?_, bal hWB _, fun t ht => ?_⟩
        · show _ = _
          rw [rd_set, take_set_succ _ (by rw [rd_len, HU.out]; exact h1), HT.out, List.take_add_one, num_take HX.out]; rfl
        · rcases List.mem_or_eq_of_mem_set ht with h | rfl
          · exact (hWI t h).at2 (ba _ _)
          · refine ⟨_, 1, rfl, Nat.le_refl _, by simp, fun _ => ⟨wr.heap.size, 0, rfl, by simp; omega, by omega, fun j z hj => ?_⟩⟩
            match j, hj with
            | 0, hj => simp at hj; subst hj; rw [← hWs]; simp [go_sem]
        · rcases List.mem_or_eq_of_mem_set ht with h | rfl
          · exact HFR.out t h
          · intro _ b o sp n c e
            simp only [Value.slice.injEq, Option.some.injEq, Addr.mk.injEq] at e
            have := hbl.size
            omega
      case measure => simp [intOf]; omega
    · have hii : i = ws.length := by omega
      have HD : Hid (rd us = numP ws) := by
        have := HT.out
        rw [List.take_of_length_le (by rw [rd_len]; omega), List.take_of_length_le (by rw [num_plen]; omega)] at this
        exact this
      have hpp : Parts wr wr.heap.size (.slice (some ⟨w.heap.size, 0, none⟩) ws.length ws.length) us := by
        have := Own.parts (w := wr) (lo := w.heap.size) (v := .slice (some ⟨w.heap.size, 0, none⟩) us.length us.length) (ts := us) ⟨w.heap.size, 0, us.length, rfl, Nat.le_refl _, by omega, Nat.le_refl _, HRow.out, HI.out⟩
        rw [hul] at this
        exact this
      have kc := make_fr wr.heap.size _ us wr (Nat.le_refl _) hpp l er (by rw [HD.out]; exact HR.out)
      clear hul hpp HD
      go_wp2_with fail
      refine kc.mono ?_
      rintro e w5 ⟨v5, xs, rfl, k1, k2, k3, k4⟩
      obtain ⟨b5, d5, rfl⟩ := k2.slice
      clear kc
      have hsz := hbl.size
      go_wp2
      exact bodyPost_ret (v := .tuple #[.slice b5 xs.length d5, .int .i64 er]) (by simp [results, Try.results26, go_sem]) rfl ⟨_, xs, rfl, k1, k2.mono hsz, bt hbl k3, k4.mono hsz⟩
end Go.Proofs.Ythmkbkombjhaeaa

namespace Go.Proofs.Ythmkbkombjhaeaa
open Go.RowKit Go.Proofs.Ythmkbkombjhaeaa.Ds

set_option maxHeartbeats 1000000 in
theorem makeR_any (B : Nat) (v : Value) (ts : List Tr) (w : World) (hB : B ≤ w.heap.size) (hp : Parts w B v ts) (l : List Pt) (er : Int) (hr : makeT (rd ts) = (l, er)) :
    Calls Try.prog 38 #[v] w fun e w' => ∃ v' us, e = .returned (.tuple #[v', .int .i64 er]) ∧ rd us = l ∧ OwnN w' w.heap.size v' us ∧ Below w.heap.size w w' := by
  have HP : Hid (Parts w B v ts) := hp
  obtain ⟨a, c, rfl, hc, hl, _⟩ := hp
  have HR : Hid (makeT (rd ts) = (l, er)) := hr
  clear hr
  go_enter Try.func38, Try.ntmps38
  go_wp2
  go_loopw [8] (fun s wr => ∃ i : Nat, s = .int .i64 (i : Int) ∧ i ≤ ts.length ∧ ((rd ts).take i).all okP = true ∧ Below w.heap.size w wr) (fun s _ => ts.length - (intOf s).toNat)
  case atStart => exact ⟨0, rfl, Nat.zero_le _, by simp, Below.refl _ _⟩
  case round =>
    obtain ⟨i, rfl, hix, hall, hbl⟩ := hrel
    have HA : Hid (((rd ts).take i).all okP = true) := hall
    clear hall
    by_cases h1 : i < ts.length
    · obtain ⟨b, o, sa, sc, xs, k, rfl, hb, hs, c1, c2, hI⟩ := HP.out.get hB hbl h1
      have HZ : Hid ((rd ts)[i]? = some (xs, k)) := rd_get hs
      have HI : Hid (Ints wr B B (.slice sa xs.length sc) xs) := hI
      have hs1 := hbl.size
      clear hs hI
      have bad : okP (xs, k) = false → Hid (l = [] ∧ er = 3) := by
        intro h
        have h2 := HR.out
        rw [makeT, all_false HZ.out h] at h2
        simp only [Bool.false_eq_true, if_false, Prod.mk.injEq] at h2
        exact ⟨h2.1.symm, h2.2.symm⟩
      obtain ⟨r0, HO⟩ : ∃ r0, Hid (okO xs = r0) := ⟨_, rfl⟩
      have ks := fun W h => small_any B B (.slice sa xs.length sc) xs W h r0 HO.out
      cases r0 with
      | false =>
        obtain ⟨rfl, rfl⟩ := (bad (by unfold okP; rw [show okO (xs, k).1 = false from HO.out, Bool.and_false])).out
        clear bad
        go_wp2_with (go_at_call 52; refine (ks _ ?_).mono ?_; (exact HI.out.at (by omega) (ba _ _)); rintro e w1 ⟨rfl, rfl⟩)
        exact bodyPost_ret (v := .tuple #[.slice none 0 0, .int .i64 3]) (by simp [results, Try.results38, go_sem]) rfl ⟨_, [], rfl, rfl, .inl ⟨rfl, rfl⟩, bal hbl _⟩
      | true =>
        by_cases hk1 : k < 0
        · obtain ⟨rfl, rfl⟩ := (bad (by unfold okP; rw [show decide (0 ≤ (xs, k).2 ∧ (xs, k).2 ≤ 1073741824) = false from decide_eq_false (by simp; omega), Bool.false_and])).out
          clear bad
          go_wp2_with (go_at_call 52; refine (ks _ ?_).mono ?_; (exact HI.out.at (by omega) (ba _ _)); rintro e w1 ⟨rfl, rfl⟩)
          exact bodyPost_ret (v := .tuple #[.slice none 0 0, .int .i64 3]) (by simp [results, Try.results38, go_sem]) rfl ⟨_, [], rfl, rfl, .inl ⟨rfl, rfl⟩, bal hbl _⟩
        · by_cases hk2 : 1073741824 < k
          · obtain ⟨rfl, rfl⟩ := (bad (by unfold okP; rw [show decide (0 ≤ (xs, k).2 ∧ (xs, k).2 ≤ 1073741824) = false from decide_eq_false (by simp; omega), Bool.false_and])).out
            clear bad
            go_wp2_with (go_at_call 52; refine (ks _ ?_).mono ?_; (exact HI.out.at (by omega) (ba _ _)); rintro e w1 ⟨rfl, rfl⟩)
            exact bodyPost_ret (v := .tuple #[.slice none 0 0, .int .i64 3]) (by simp [results, Try.results38, go_sem]) rfl ⟨_, [], rfl, rfl, .inl ⟨rfl, rfl⟩, bal hbl _⟩
          · have HN : Hid (((rd ts).take (i + 1)).all okP = true) := by
              rw [Hid, all_take HZ.out, HA.out]
              unfold okP
              rw [show okO (xs, k).1 = true from HO.out, show decide (0 ≤ (xs, k).2 ∧ (xs, k).2 ≤ 1073741824) = true from decide_eq_true (by simp; omega)]
              rfl
            clear bad
            go_wp2_with (go_at_call 52; refine (ks _ ?_).mono ?_; (exact HI.out.at (by omega) (ba _ _)); rintro e w1 ⟨rfl, rfl⟩)
            go_roundw
            case rel => exact ⟨i + 1, by go_num, h1, HN.out, bal hbl _⟩
            case measure => simp [intOf]; omega
    · have hA : (rd ts).all okP = true := by have := HA.out; rwa [rd_take_all (by omega)] at this
      have h2 := HR.out
      rw [makeT, hA] at h2
      simp only [if_true] at h2
      have kt := tidy_any B _ ts wr (Nat.le_trans hB hbl.size) (HP.out.at hB hbl) (all_okP hA).1 (tot_ok hA (by rw [rd_len]; exact hl)) l er h2
      have hs1 := hbl.size
      clear hA h2
      go_wp2_with fail
      refine kt.mono ?_
      rintro e w3 ⟨v3, us3, rfl, hrd3, ho3, hb3⟩
      obtain ⟨a3, c3, rfl⟩ := ho3.slice
      have HO3 : Hid (OwnN w3 w.heap.size (.slice a3 us3.length c3) us3) := ho3.mono hs1
      have HR3 : Hid (rd us3 = l) := hrd3
      clear ho3 hrd3 kt
      go_wp2
      exact bodyPost_ret (v := .tuple #[.slice a3 us3.length c3, .int .i64 er]) (by simp [results, Try.results38, go_sem]) rfl ⟨_, us3, rfl, HR3.out, HO3.out, bt hbl hb3⟩

set_option maxHeartbeats 1000000 in
theorem sameR_any (B : Nat) (u v : Value) (ts us : List Tr) (w : World) (hB : B ≤ w.heap.size) (hp : Parts w B u ts) (hq : Parts w B v us) (r : Bool) (hr : decide (rd ts = rd us) = r) :
    Calls Try.prog 9 #[u, v] w fun e w' => e = .returned (.bool r) ∧ Below w.heap.size w w' := by
  have HP : Hid (Parts w B u ts) := hp
  have HQ : Hid (Parts w B v us) := hq
  have HR : Hid (decide (rd ts = rd us) = r) := hr
  obtain ⟨a, c, rfl, hc, hl, _⟩ := hp
  obtain ⟨a2, c2, rfl, hc2, hl2, _⟩ := hq
  clear hr
  by_cases hlen : ts.length = us.length
  · have hle : (((ts.length : Int)) == (us.length : Int)) = true := by simp [hlen]
    have hle2 : (((ts.length : Int)) != (us.length : Int)) = false := by simp [hlen]
    have HLN : Hid (ts.length = us.length) := hlen
    clear hlen
    go_enter Try.func9, Try.ntmps9
    go_wp2
    go_loopw [13] (fun s wr => ∃ i : Nat, s = .int .i64 (i : Int) ∧ i ≤ ts.length ∧ (rd ts).take i = (rd us).take i ∧ Below w.heap.size w wr) (fun s _ => ts.length - (intOf s).toNat)
    case atStart => exact ⟨0, rfl, Nat.zero_le _, by simp, Below.refl _ _⟩
    case round =>
      obtain ⟨i, rfl, hit, htk, hbl⟩ := hrel
      have HT : Hid ((rd ts).take i = (rd us).take i) := htk
      clear htk
      by_cases h1 : i < ts.length
      · obtain ⟨b, o, sa, sc, xs, k, rfl, hb, hs, c1, c2', hI⟩ := HP.out.get hB hbl h1
        obtain ⟨b2, o2, sa2, sc2, xs2, k2, rfl, hb2, hs2, d1, d2, hI2⟩ := HQ.out.get hB hbl (i := i) (by have := HLN.out; omega)
        have HS : Hid ((rd ts)[i]? = some (xs, k)) := rd_get hs
        have HS2 : Hid ((rd us)[i]? = some (xs2, k2)) := rd_get hs2
        have HI : Hid (Ints wr B B (.slice sa xs.length sc) xs) := hI
        have HI2 : Hid (Ints wr B B (.slice sa2 xs2.length sc2) xs2) := hI2
        have hs1 := hbl.size
        have z0 : (0 : Int) ≤ (i : Int) := by omega
        have z1 : (i : Int) < (us.length : Int) := by have := HLN.out; omega
        have z2 : (i : Int) < (ts.length : Int) := by omega
        obtain ⟨r1, HC⟩ : ∃ r1, Hid (cmpT xs xs2 = r1) := ⟨_, rfl⟩
        clear hs hs2 hI hI2
        by_cases hk : k = k2
        · subst hk
          have hkk : (k != k) = false := by simp
          have hdd : decide (k = k) = true := decide_eq_true rfl
          by_cases he : r1 = 0
          · have hx : Hid (xs2 = xs) := ((cmpT_zero _ _).1 (HC.out.trans he)).symm
            subst he
            go_wp2_with fail
            go_quiet ((go_at_call 16; refine Calls.quiet_of (refCompare_any B B B _ _ xs xs2 _ ?_ ?_ 0 HC.out); exact HI.out.keep (below_drewN (Below.refl _ _) _); exact HI2.out.keep (below_drewN (Below.refl _ _) _)))
            go_wp2
            go_roundw
            case rel => exact ⟨i + 1, by go_num, h1, take_next HT.out HS.out (by rw [HS2.out, hx.out]), below_drewN hbl _⟩
            case measure => simp [intOf]; omega
          · have he' : (r1 != 0) = true := by simpa using he
            have hr1 : r = false := by
              rw [← HR.out]
              refine decide_eq_false fun h => he ?_
              have h2 := HS.out
              rw [h, HS2.out] at h2
              simp only [Option.some.injEq, Prod.mk.injEq] at h2
              rw [← HC.out, h2.1]; exact cmpT_self _
            subst hr1
            go_wp2_with fail
            go_quiet ((go_at_call 16; refine Calls.quiet_of (refCompare_any B B B _ _ xs xs2 _ ?_ ?_ r1 HC.out); exact HI.out.keep (below_drewN (Below.refl _ _) _); exact HI2.out.keep (below_drewN (Below.refl _ _) _)))
            go_wp2
            go_ret
            exact ⟨rfl, below_drewN hbl _⟩
        · have hkk : (k != k2) = true := by simpa using hk
          have hdd : decide (k = k2) = false := decide_eq_false hk
          have hr1 : r = false := by
            rw [← HR.out]
            refine decide_eq_false fun h => hk ?_
            have h2 := HS.out
            rw [h, HS2.out] at h2
            simp only [Option.some.injEq, Prod.mk.injEq] at h2
            exact h2.2.symm
          subst hr1
          go_wp2_with fail
          go_quiet (fail)
          go_wp2
          go_ret
          exact ⟨rfl, below_drewN hbl _⟩
      · have hr1 : r = true := by
          rw [← HR.out]
          refine decide_eq_true ?_
          have := HT.out
          rwa [rd_take_all (by omega), rd_take_all (by have := HLN.out; omega)] at this
        subst hr1
        go_wp2
        go_ret
        exact ⟨rfl, hbl⟩
  · have hle : (((ts.length : Int)) == (us.length : Int)) = false := by simp; omega
    have hle2 : (((ts.length : Int)) != (us.length : Int)) = true := by simp; omega
    have hr1 : r = false := by
      rw [← HR.out]
      refine decide_eq_false fun h => hlen ?_
      rw [← rd_len, h, rd_len]
    subst hr1
    go_enter Try.func9, Try.ntmps9
    go_wp2
    go_ret
    exact ⟨rfl, Below.refl _ _⟩

set_option maxHeartbeats 1000000 in
theorem wrongR_any (B : Nat) (v : Value) (ts : List Tr) (w : World) (hB : B ≤ w.heap.size) (hp : Parts w B v ts) (er : Int) (hr : (ownT (rd ts)).2 = er) :
    Calls Try.prog 37 #[v] w fun e w' => e = .returned (.int .i64 er) ∧ Below w.heap.size w w' := by
  have HP : Hid (Parts w B v ts) := hp
  obtain ⟨a, c, rfl, hc, hl, _⟩ := hp
  obtain ⟨⟨m, e1⟩, hm⟩ : ∃ m, makeT (rd ts) = m := ⟨_, rfl⟩
  have kc := makeR_any B _ ts w hB HP.out m e1 hm
  rw [ownT, hm] at hr
  simp only at hr
  have HR : Hid ((if e1 = 0 then if m = rd ts then (rd ts, 0) else ([], 2) else ([], e1)).2 = er) := hr
  clear hr hm
  go_enter Try.func37, Try.ntmps37
  go_wp2_with fail
  refine kc.mono ?_
  rintro e w1 ⟨v1, us, rfl, hrd, ho, hb1⟩
  have HO : Hid (OwnN w1 w.heap.size v1 us) := ho
  have HD : Hid (rd us = m) := hrd
  obtain ⟨a1, c1, rfl⟩ := ho.slice
  clear ho hrd kc
  by_cases h0 : e1 = 0
  · subst h0
    have hP1 : Parts w1 w1.heap.size (.slice a ts.length c) ts := (HP.out.at hB hb1).mono (Nat.le_trans hB hb1.size)
    by_cases h2 : m = rd ts
    · have h3 := HR.out
      rw [if_pos rfl, if_pos h2] at h3
      simp only at h3
      subst h3
      have ke := sameR_any w1.heap.size _ _ ts us w1 (Nat.le_refl _) hP1 HO.out.parts true (decide_eq_true (by rw [HD.out, h2]))
      clear h2 hP1
      go_wp2_with fail
      refine ke.mono ?_
      rintro e w2 ⟨rfl, hb2⟩
      clear ke
      go_wp2
      go_ret
      exact ⟨rfl, bt hb1 hb2⟩
    · have h3 := HR.out
      rw [if_pos rfl, if_neg h2] at h3
      simp only at h3
      subst h3
      have ke := sameR_any w1.heap.size _ _ ts us w1 (Nat.le_refl _) hP1 HO.out.parts false (decide_eq_false (by rw [HD.out]; exact fun h => h2 h.symm))
      clear h2 hP1
      go_wp2_with fail
      refine ke.mono ?_
      rintro e w2 ⟨rfl, hb2⟩
      clear ke
      go_wp2
      go_ret
      exact ⟨rfl, bt hb1 hb2⟩
  · have h3 := HR.out
    rw [if_neg h0] at h3
    simp only at h3
    subst h3
    have h0' : (e1 == 0) = false := by simpa using h0
    have h0'' : (e1 != 0) = true := by simpa using h0
    go_wp2
    go_ret
    exact ⟨rfl, hb1⟩
end Go.Proofs.Ythmkbkombjhaeaa
