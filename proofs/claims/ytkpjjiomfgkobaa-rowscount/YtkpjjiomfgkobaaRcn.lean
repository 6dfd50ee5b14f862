import Derived.Test.YtkpjjiomfgkobaaAll
import Derived.Test.YtkpjjiomfgkobaaSam
namespace Go.Proofs.Ytkpjjiomfgkobaa
open Go.RowKit Go.Proofs.Ytkpjjiomfgkobaa.Ds

theorem cnt_step {rs : List (List Int)} {i : Nat} {x r : List Int} (h : rs[i]? = some x) : cntT (rs.take (i + 1)) r = cntT (rs.take i) r + if x = r then 1 else 0 := by
  rw [List.take_add_one, h]
  by_cases e : x = r <;> simp [cntT, List.count_append, e]

set_option maxHeartbeats 1000000 in
theorem count_any (B Bi nb : Nat) (cv rv u : Value) (ts : List Rw) (r : List Int) (w : World) (hB : B ≤ w.heap.size) (hcv : ∃ a n c, cv = .slice a n c) (hq : Rws w B rv ts) (hBi : Bi ≤ w.heap.size) (hu : Ints w Bi nb u r) (k0 : Int) (hr : cntT (rr ts) r = k0) :
    Calls Try.prog 30 #[.agg #[cv, rv], u] w fun e w' => e = .returned (.int .i64 k0) ∧ Below w.heap.size w w' := by
  have HQ : Hid (Rws w B rv ts) := hq
  have HU : Hid (Ints w Bi nb u r) := hu
  have HR : Hid (cntT (rr ts) r = k0) := hr
  obtain ⟨a, n, c, rfl⟩ := hcv
  obtain ⟨a2, c2, rfl, hc2, hl2⟩ := hq.slice
  obtain ⟨a3, c3, rfl, hc3, hl3⟩ := hu.slice
  clear hr
  obtain ⟨W, hW⟩ : ∃ W, w.alloc (.cells #[.slice a n c, .slice a2 ts.length c2] 25) = W := ⟨_, rfl⟩
  have hbW : Below w.heap.size w W := by rw [← hW]; exact ba _ _
  have hsW : W.heap.size = w.heap.size + 1 := by rw [← hW]; simp
  have p1 : W.cell? ⟨w.heap.size, 1, none⟩ = some (.slice a2 ts.length c2) := by rw [← hW]; simp [go_sem]
  go_enter Try.func30, Try.ntmps30
  go_wp2
  clear hW p1
  go_loopw [5, 11] (fun nv s wr => ∃ (i : Nat) (k : Int), nv = .int .i64 k ∧ s = .int .i64 (i : Int) ∧ i ≤ ts.length ∧ 0 ≤ k ∧ k ≤ i ∧ Hid (cntT ((rr ts).take i) r = k) ∧ Below W.heap.size W wr) (fun _ s _ => ts.length - (intOf s).toNat)
  case atStart => exact ⟨0, 0, rfl, rfl, Nat.zero_le _, by omega, by omega, by simp [Hid, cntT], Below.refl _ _⟩
  case round =>
    obtain ⟨i, k, rfl, rfl, hi, hk0, hk1, HI, hbl⟩ := hrel
    have hbr : Below w.heap.size w wr := bt hbW hbl
    by_cases h1 : i < ts.length
    · obtain ⟨b, o, sa, sc, x, rfl, hb, hg, c1, hI⟩ := HQ.out.get hB hbr h1
      have HII : Hid (Ints wr B B (.slice sa x.length sc) x) := hI
      have HS : Hid (cntT ((rr ts).take (i + 1)) r = cntT ((rr ts).take i) r + if x = r then 1 else 0) := cnt_step (rr_get hg)
      clear hg hI
      obtain ⟨M, hM1, hM2⟩ : ∃ M, B ≤ M ∧ Bi ≤ M := ⟨max B Bi, by omega, by omega⟩
      obtain ⟨r1, HC⟩ : ∃ r1, Hid (cmpT x r = r1) := ⟨_, rfl⟩
      have kc := refCompare_any M M M _ _ x r wr (HII.out.mono hM1 (.inr hM1)) ((HU.out.at hBi hbr).mono hM2 (.inr hM2)) r1 HC.out
      by_cases he : r1 = 0
      · subst he
        have HX : Hid (x = r) := (cmpT_zero _ _).1 HC.out
        go_wp2_with fail
        refine kc.mono ?_
        rintro e w2 ⟨rfl, q, rfl⟩
        go_wp2
        go_roundw
        case rel => exact ⟨i + 1, k + 1, by go_num, by go_num, h1, by omega, by omega, by show _ = _; rw [HS.out, HI.out, if_pos HX.out], below_drewN hbl _⟩
        case measure => simp [intOf]; omega
      · have he' : (r1 == 0) = false := by simpa using he
        have HX : Hid (x ≠ r) := fun h => he (by rw [← HC.out, h]; exact cmpT_self _)
        go_wp2_with fail
        refine kc.mono ?_
        rintro e w2 ⟨rfl, q, rfl⟩
        go_wp2
        go_roundw
        case rel => exact ⟨i + 1, k, rfl, by go_num, h1, by omega, by omega, by show _ = _; rw [HS.out, HI.out, if_neg HX.out]; omega, below_drewN hbl _⟩
        case measure => simp [intOf]; omega
    · obtain rfl : k = k0 := by rw [← HI.out, List.take_of_length_le (by rw [rr_len]; omega)]; exact HR.out
      go_wp2
      go_ret
      exact ⟨rfl, hbr⟩

set_option maxHeartbeats 2000000 in
set_option maxRecDepth 100000 in
theorem counts_any (B : Nat) (cv rv : Value) (l : List Col) (ts : List Rw) (w : World) (hB : B ≤ w.heap.size) (hp : Cols w B cv l) (hq : Rws w B rv ts) (xs : List Int) (er : Int) (hr : cellsR l (rr ts) = (xs, er)) :
    Calls Try.prog 11 #[.agg #[cv, rv]] w (CellsP xs er w) := by
  have HP : Hid (Cols w B cv l) := hp
  have HQ : Hid (Rws w B rv ts) := hq
  have HR : Hid (cellsR l (rr ts) = (xs, er)) := hr
  obtain ⟨a, c, rfl, hc, hl⟩ := hp.slice
  obtain ⟨a2, c2, rfl, hc2, hl2⟩ := hq.slice
  obtain ⟨i3, hi3, hy0, hy1, hy2⟩ := info_parts info3
  clear hr
  obtain ⟨ec, hec⟩ : ∃ ec, Hid (wroE l (rr ts) = ec) := ⟨_, rfl⟩
  have kc := rwrong_any B _ _ l ts (w.alloc (.cells #[.slice a l.length c, .slice a2 ts.length c2] 25)) (by simp; omega) (HP.out.at hB (ba _ _)) (HQ.out.at hB (ba _ _)) ec hec.out
  have d0 : (w.alloc (.cells #[.slice a l.length c, .slice a2 ts.length c2] 25)).cell? ⟨w.heap.size, 0, none⟩ = some (.slice a l.length c) := nc _ _ 0 _ rfl rfl
  have d1 : (w.alloc (.cells #[.slice a l.length c, .slice a2 ts.length c2] 25)).cell? ⟨w.heap.size, 1, none⟩ = some (.slice a2 ts.length c2) := nc _ _ 1 _ rfl rfl
  go_enter Try.func11, Try.ntmps11
  go_wp2_with fail
  refine kc.mono ?_
  rintro e w1 ⟨rfl, hb1⟩
  have hbw : Below w.heap.size w w1 := bt (ba _ _) hb1
  have f0 : w1.cell? ⟨w.heap.size, 0, none⟩ = some (.slice a l.length c) := (hb1.cell (p := ⟨w.heap.size, 0, none⟩) (by simp)).trans d0
  have f1 : w1.cell? ⟨w.heap.size, 1, none⟩ = some (.slice a2 ts.length c2) := (hb1.cell (p := ⟨w.heap.size, 1, none⟩) (by simp)).trans d1
  have hz1 : w.heap.size < w1.heap.size := by have := hb1.size; simp at this; omega
  clear kc d0 d1 hb1
  by_cases he0 : ec = 0
  · subst he0
    have HW : Hid (colE l = 0 ∧ (rr ts).length ≤ 4096 ∧ ∀ r ∈ rr ts, RowOk l r) := wroE_ok hec.out
    have HC := colE_ok HW.out.1
    have HO : Hid (Szs l ∧ prd l ≤ 4096) := ⟨HC.2.2.1, HC.2.2.2.1⟩
    have hxs : celT l (rr ts) = xs ∧ 0 = er := by
      have := HR.out
      rw [cellsR, if_pos hec.out, Prod.mk.injEq] at this
      exact this
    obtain ⟨hxs, rfl⟩ := hxs
    have HX : Hid ((allT l).map (cntT (rr ts)) = xs) := hxs
    have kc := all_any B _ l w1 (by omega) (HP.out.at hB hbw) HC.2.1 HO.out.1 HO.out.2 _ rfl
    clear hxs HC
    go_wp2_with fail
    refine kc.mono ?_
    rintro e w2 ⟨av, as', rfl, hrr, hrw, hb2, _, _⟩
    have HRR : Hid (rr as' = allT l) := hrr
    have HRW : Hid (Rws w2 w2.heap.size av as') := hrw
    have hal : as'.length ≤ 4096 := by rw [← rr_len, hrr, allT_len]; exact HO.out.2
    obtain ⟨aa, ac, rfl, _⟩ := hrw.slice
    have hbw2 : Below w.heap.size w w2 := bt hbw hb2
    have g0 : w2.cell? ⟨w.heap.size, 0, none⟩ = some (.slice a l.length c) := (hb2.cell (p := ⟨w.heap.size, 0, none⟩) hz1).trans f0
    have g1 : w2.cell? ⟨w.heap.size, 1, none⟩ = some (.slice a2 ts.length c2) := (hb2.cell (p := ⟨w.heap.size, 1, none⟩) hz1).trans f1
    have hz2 : w.heap.size < w2.heap.size := by have := hb2.size; omega
    clear kc f0 f1 hb2 hbw hz1 hrr hrw
    go_wp2
    go_loopw [5, 17] (fun ov s wr => ∃ (i : Nat), s = .int .i64 (i : Int) ∧ i ≤ as'.length ∧ Hid (wr.ownsRow w2.heap.size 3 1 ov i ((((rr as').take i).map (cntT (rr ts))).map (.int .i64))) ∧ Below w2.heap.size w2 wr) (fun _ s _ => as'.length - (intOf s).toNat)
    case atStart => exact ⟨0, rfl, Nat.zero_le _, World.ownsRow_nil _ _ _ _, Below.refl _ _⟩
    case round =>
      obtain ⟨i, rfl, hi, HI, hbl⟩ := hrel
      obtain ⟨oa, oc, rfl⟩ := owns_slice HI.out
      have hbwr : Below w.heap.size w wr := bt hbw2 hbl
      have hzr := hbl.size
      by_cases h1 : i < as'.length
      · obtain ⟨b, o, sa, sc, r, rfl, hb, hg, c1, hI⟩ := HRW.out.get (Nat.le_refl _) hbl h1
        have HII : Hid (Ints wr w2.heap.size w2.heap.size (.slice sa r.length sc) r) := hI
        have HG : Hid ((rr as')[i]? = some r) := rr_get hg
        have q0 : wr.cell? ⟨w.heap.size, 0, none⟩ = some (.slice a l.length c) := (hbl.cell (p := ⟨w.heap.size, 0, none⟩) hz2).trans g0
        have q1 : wr.cell? ⟨w.heap.size, 1, none⟩ = some (.slice a2 ts.length c2) := (hbl.cell (p := ⟨w.heap.size, 1, none⟩) hz2).trans g1
        obtain ⟨k0, hk0⟩ : ∃ k0, Hid (cntT (rr ts) r = k0) := ⟨_, rfl⟩
        have kc := count_any B w2.heap.size w2.heap.size (.slice a l.length c) _ _ ts r wr (by omega) ⟨_, _, _, rfl⟩ (HQ.out.at hB hbwr) (by omega) HII.out k0 hk0.out
        clear hg hI
        go_wp2_with fail
        refine kc.mono ?_
        rintro e w4 ⟨rfl, hb4⟩
        have hO4 : Hid (w4.ownsRow w2.heap.size 3 1 (.slice oa i oc) i ((((rr as').take i).map (cntT (rr ts))).map (.int .i64))) := owns_below HI.out hb4
        have hbl4 : Below w2.heap.size w2 w4 := bt hbl hb4
        have hz4 := hb4.size
        clear kc hb4
        go_wp2_with (at_builtin; refine wpList_append_own_at _ rfl _ _ 26 rfl w2.heap.size 3 i3 (.int .i64 0) 1 8 Try.underlying26 hi3 hy0 hy1 hy2 rfl (by decide) _ _ _ rfl (hO4.out.alloc _) ⟨w4.heap.size, 0, none⟩ 1 1 [.int .i64 k0] rfl ?q1 ?q2 ?q3 ?q4 ?q5 ?q6 ?_)
        case q1 => rfl
        case q2 => exact cell_one_new _ _ _
        case q3 => intro u hu; simp at hu; subst hu; rfl
        case q4 => simp [maxLen]; omega
        case q5 => omega
        case q6 => simp; omega
        intro v5 w5 hown5 hgrow5 hnil5 hat5
        have HO5 : Hid (w5.ownsRow w2.heap.size 3 1 v5 (i + 1) ((((rr as').take (i + 1)).map (cntT (rr ts))).map (.int .i64))) := by
          show World.ownsRow _ _ _ _ _ _ _
          rw [List.take_add_one, HG.out]
          simpa [hk0.out] using hown5
        have hb5 : Below w2.heap.size w2 w5 := (bal hbl4 (.cells #[.int .i64 k0] 3)).grown hgrow5 (by simp; omega) (owns_block hO4.out)
        obtain ⟨a5, c5, rfl⟩ := owns_slice HO5.out
        clear hown5 hgrow5 hnil5 hat5
        go_wp2
        go_roundw
        case rel => exact ⟨i + 1, by go_num, h1, HO5, hb5⟩
        case measure => simp [intOf]; omega
      · have HF : Hid (wr.ownsRow w2.heap.size 3 1 (.slice oa i oc) i (xs.map (.int .i64)) ∧ i = xs.length) := by
          have := HI.out
          rw [List.take_of_length_le (by rw [rr_len]; omega), HRR.out, HX.out] at this
          refine ⟨this, ?_⟩
          rw [← HX.out, List.length_map, ← HRR.out, rr_len]; omega
        go_wp2
        go_ret2
        exact ⟨_, rfl, fun m hm => ints_of_owns HF.out.2 (by have := HF.out.2; omega) HF.out.1 (by omega), hbwr⟩
  · have hne : (ec != 0) = true := by simpa using he0
    have hxs : ([] : List Int) = xs ∧ ec = er := by
      have := HR.out
      rw [cellsR, hec.out, if_neg he0, Prod.mk.injEq] at this
      exact this
    obtain ⟨rfl, rfl⟩ := hxs
    go_wp2
    go_ret2
    exact ⟨_, rfl, newI_nil _ _, hbw⟩
end Go.Proofs.Ytkpjjiomfgkobaa
