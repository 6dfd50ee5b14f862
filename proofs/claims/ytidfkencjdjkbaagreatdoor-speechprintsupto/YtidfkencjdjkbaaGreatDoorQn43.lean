import Derived.Test.YtidfkencjdjkbaaGreatDoorQn38
import Derived.Test.YtidfkencjdjkbaaGreatDoorQn42
/-
  The document's own answer, chapter 15, Print: the text of a question, kind by kind.
-/
namespace Go.Proofs.YtidfkencjdjkbaaGreatDoor
open Go.RowKit Sp
open Go.Lib (decDigits itoa)

set_option maxHeartbeats 4000000 in
set_option maxRecDepth 100000 in
theorem txt9 (lo : Int) (hlo : 0 ≤ lo ∧ lo ≤ 1048576) (x : Qu) (hSx : Say x) (hTx : TX x) (w : World) (B : Nat) (cs : List Value) (lv : Int) (hB : B ≤ w.heap.size) (h : QI w B (.node 9 [] lo 0 [] 1 x .none) cs) (hz : sizQ (.node 9 [] lo 0 [] 1 x .none) ≤ 1073741824) (h1 : 1 ≤ lv) (h64 : lv ≤ 64) : Calls Tryz.prog 18 #[.agg cs.toArray, .int .i64 lv] w (TxA (okT (.node 9 [] lo 0 [] 1 x .none) (lvl lv)) (tQ (.node 9 [] lo 0 [] 1 x .none)) (200000000 * sizQ (.node 9 [] lo 0 [] 1 x .none)) w) := by
  have HQ0 : Hid (QI w B (.node 9 [] lo 0 [] 1 x .none) cs) := h
  have HSN : Hid (Say (.node 9 [] lo 0 [] 1 x .none)) := .inr (.inr (.inr (.inr (.inr (.inr (.inl ⟨rfl, rfl, hlo, rfl, rfl, rfl, hSx, rfl⟩))))))
  obtain ⟨wv, ka, kc, rfl, hTI, hnk, -, -, -, -, -, -, -, hkids⟩ := h
  have HTI : Hid (TI w B [] wv) := hTI
  obtain ⟨wa, wc, rfl, hwc, -, -, -⟩ := hTI
  have HL0 : Hid (([] : List Tst).length = 0) := rfl
  rw [HL0.out]
  obtain ⟨m, hm⟩ : ∃ m : Nat, lvl lv = m + 1 := ⟨(64 - lv).toNat, by unfold lvl; omega⟩
  have HM : Hid (lvl lv = m + 1) := hm
  have HM1 : Hid (lvl (lv + 1) = m) := by unfold lvl at *; rw [Hid]; omega
  have hgl : ¬ (64 : Int) < lv := by omega
  have hgd : decide ((64 : Int) < lv) = false := by simpa using hgl
  obtain ⟨W0, hW0⟩ : ∃ W0, w.alloc (.cells #[.int .i64 9, .string (tx []), .int .i64 lo, .int .i64 0, .slice wa 0 wc, .slice ka 1 kc] 25) = W0 := ⟨_, rfl⟩
  have HB0 : Hid (Below w.heap.size w W0) := hW0 ▸ ba _ _
  have HX0 : Hid (Bx W0 w.heap.size [.int .i64 9, .string (tx []), .int .i64 lo, .int .i64 0, .slice wa 0 wc, .slice ka 1 kc]) := hW0 ▸ Bx.new w [.int .i64 9, .string (tx []), .int .i64 lo, .int .i64 0, .slice wa 0 wc, .slice ka 1 kc] 25 rfl
  have z0 := (HX0.out 0 _ rfl).c
  have z1 := (HX0.out 1 _ rfl).c
  have z2 := (HX0.out 2 _ rfl).c
  have z3 := (HX0.out 3 _ rfl).c
  have z4 := (HX0.out 4 _ rfl).c
  have z5 := (HX0.out 5 _ rfl).c
  rw [hm]
  obtain ⟨r, hr⟩ : ∃ r, okT (.node 9 [] lo 0 [] 1 x .none) (m + 1) = r := ⟨_, rfl⟩
  have HR : Hid (okT (.node 9 [] lo 0 [] 1 x .none) (m + 1) = r) := hr
  rw [hr]
  clear hr
  obtain ⟨bb, ob, rfl, hbb, ⟨xs, hxs, hxc⟩, hyy⟩ := hkids (by omega) (by omega)
  have hbw : bb < w.heap.size := by omega
  obtain ⟨kdx, cx, lox, hix, wax, wnx, wcx, kax, knx, kcx, rfl⟩ := hxs.six
  have HXC : Hid (∀ (j : Nat) u, [.int .i64 kdx, .string (tx cx), .int .i64 lox, .int .i64 hix, .slice wax wnx wcx, .slice kax knx kcx][j]? = some u → w.cell? ⟨bb, ob + j, none⟩ = some u) := hxc
  have HXS : Hid (QI w B x [.int .i64 kdx, .string (tx cx), .int .i64 lox, .int .i64 hix, .slice wax wnx wcx, .slice kax knx kcx]) := hxs
  clear hxc hxs
  have hsz : sizQ (.node 9 [] lo 0 [] 1 x .none) = 1 + sizQ x := by simp [sizQ]
  rw [hsz] at hz ⊢
  clear hkids hyy hm
  have xp0 : W0.cell? ⟨bb, ob, none⟩ = some (.int .i64 kdx) := (HB0.out.cell (p := ⟨bb, ob, none⟩) hbw).trans (HXC.out 0 _ rfl)
  have xp1 : W0.cell? ⟨bb, ob + 1, none⟩ = some (.string (tx cx)) := (HB0.out.cell (p := ⟨bb, ob + 1, none⟩) hbw).trans (HXC.out 1 _ rfl)
  have xp2 : W0.cell? ⟨bb, ob + 2, none⟩ = some (.int .i64 lox) := (HB0.out.cell (p := ⟨bb, ob + 2, none⟩) hbw).trans (HXC.out 2 _ rfl)
  have xp3 : W0.cell? ⟨bb, ob + 3, none⟩ = some (.int .i64 hix) := (HB0.out.cell (p := ⟨bb, ob + 3, none⟩) hbw).trans (HXC.out 3 _ rfl)
  have xp4 : W0.cell? ⟨bb, ob + 4, none⟩ = some (.slice wax wnx wcx) := (HB0.out.cell (p := ⟨bb, ob + 4, none⟩) hbw).trans (HXC.out 4 _ rfl)
  have xp5 : W0.cell? ⟨bb, ob + 5, none⟩ = some (.slice kax knx kcx) := (HB0.out.cell (p := ⟨bb, ob + 5, none⟩) hbw).trans (HXC.out 5 _ rfl)
  obtain ⟨W1, hW1⟩ : ∃ W1, W0.alloc (.cells #[.int .i64 kdx, .string (tx cx), .int .i64 lox, .int .i64 hix, .slice wax wnx wcx, .slice kax knx kcx] 25) = W1 := ⟨_, rfl⟩
  have hbb1 : Below W0.heap.size W0 W1 := hW1 ▸ ba _ _
  have HK1 : Hid (Bx W1 W0.heap.size [.int .i64 kdx, .string (tx cx), .int .i64 lox, .int .i64 hix, .slice wax wnx wcx, .slice kax knx kcx]) := hW1 ▸ Bx.new W0 [.int .i64 kdx, .string (tx cx), .int .i64 lox, .int .i64 hix, .slice wax wnx wcx, .slice kax knx kcx] 25 rfl
  have HV1 : Hid (Below w.heap.size w W1) := bt HB0.out hbb1
  have HXB : Hid (Bx W1 w.heap.size [.int .i64 9, .string (tx []), .int .i64 lo, .int .i64 0, .slice wa 0 wc, .slice (some ⟨bb, ob, none⟩) 1 kc]) := HX0.out.at hbb1
  have y0 := (HK1.out 0 _ rfl).c
  have y1 := (HK1.out 1 _ rfl).c
  have y2 := (HK1.out 2 _ rfl).c
  have y3 := (HK1.out 3 _ rfl).c
  have y4 := (HK1.out 4 _ rfl).c
  have y5 := (HK1.out 5 _ rfl).c
  obtain ⟨xc, xlo, xhi, xwh, xn, xx, xy, hxe⟩ := (HXS.out).kind
  obtain ⟨bs, hbs⟩ : ∃ bs, (isS x || isT x) = bs := ⟨_, rfl⟩
  have HBS : Hid ((isS x || isT x) = bs) := hbs
  have hbk : bs = (decide (kdx = 4) || decide (kdx = 5) || decide (kdx = 6)) := by rw [← hbs, hxe]; rfl
  clear hbb1 hxe hbs
  have kl0 := fun W => rnum_any lo (by omega) hlo.2 W
  have hLl := itoaR_len (v := lo) (by omega) hlo.2
  obtain ⟨L, hL⟩ : ∃ L, itoa lo = L := ⟨_, rfl⟩
  rw [hL] at kl0 hLl
  have HLL : Hid (itoa lo = L) := hL
  have HKL : Hid _ := kl0
  clear hL kl0
  by_cases e4 : kdx = 4
  · obtain rfl : true = bs := by rw [hbk]; simp [e4]
    have kx := brk43 hTx W1 B _ lv (Nat.le_trans hB HV1.out.size) (QI.keep (HV1.out.mono hB) _ HXS.out) hSx (by omega) (by omega) (by omega)
    obtain ⟨b1, hb1⟩ : ∃ b, okT x (lvl (lv + 1)) = b := ⟨_, rfl⟩
    rw [hb1] at kx
    have HBO : Hid ((if (isS x || isT x) = true then okT x m else okT x (m + 1)) = b1) := by rw [Hid, HBS.out, if_pos rfl, ← hb1, HM1.out]
    have HSX : Hid (∀ s : By, (b1 = true → s = bkT true (tQ x)) → b1 = true → s = bkT (isS x || isT x) (tQ x)) := fun s h e => by rw [HBS.out]; exact h e
    clear hb1 hbk
    subst e4
    go_enter Tryz.func18, Tryz.ntmps18
    go_wp2_with fail
    clear hW0 hW1
    refine kx.mono ?_
    rintro e w1 ⟨⟨s1, rfl, hs1, hl1⟩, hbw1⟩
    have HS1 : Hid (b1 = true → s1 = bkT (isS x || isT x) (tQ x)) := HSX.out s1 hs1
    have HW1 : Hid (Below w.heap.size w w1) := bt HV1.out hbw1
    have HX1 : Hid (Bx w1 w.heap.size [.int .i64 9, .string (tx []), .int .i64 lo, .int .i64 0, .slice wa 0 wc, .slice (some ⟨bb, ob, none⟩) 1 kc]) := HXB.out.at hbw1
    clear kx hs1 hbw1 y0 y1 y2 y3 y4 y5 HSX
    have z0 := (HX1.out 0 _ rfl).c
    have z1 := (HX1.out 1 _ rfl).c
    have z2 := (HX1.out 2 _ rfl).c
    have z3 := (HX1.out 3 _ rfl).c
    have z4 := (HX1.out 4 _ rfl).c
    have z5 := (HX1.out 5 _ rfl).c
    have kl := HKL.out w1
    have a1 := tx_addR (s1) (sLeft)
    have l1 : ¬ (9223372036854775807 < (s1 : By).length + (sLeft : By).length) := by first | omega | (simp only [List.length_cons, List.length_nil]; omega)
    obtain ⟨S1, hT1⟩ : ∃ S, (s1 : By) ++ (sLeft) = S := ⟨_, rfl⟩
    rw [hT1] at a1
    have hq1 : S1.length = (s1 : By).length + (sLeft : By).length := by rw [← hT1, List.length_append]
    try simp only [List.length_cons, List.length_nil] at hq1
    have a2 := tx_addR (S1) (L)
    have l2 : ¬ (9223372036854775807 < (S1 : By).length + (L : By).length) := by first | omega | (simp only [List.length_cons, List.length_nil]; omega)
    obtain ⟨S2, hT2⟩ : ∃ S, (S1 : By) ++ (L) = S := ⟨_, rfl⟩
    rw [hT2] at a2
    have hq2 : S2.length = (S1 : By).length + (L : By).length := by rw [← hT2, List.length_append]
    try simp only [List.length_cons, List.length_nil] at hq2
    have a3 := tx_addR (S2) (sRight)
    have l3 : ¬ (9223372036854775807 < (S2 : By).length + (sRight : By).length) := by first | omega | (simp only [List.length_cons, List.length_nil]; omega)
    obtain ⟨S3, hT3⟩ : ∃ S, (S2 : By) ++ (sRight) = S := ⟨_, rfl⟩
    rw [hT3] at a3
    have hq3 : S3.length = (S2 : By).length + (sRight : By).length := by rw [← hT3, List.length_append]
    try simp only [List.length_cons, List.length_nil] at hq3
    have HFI : Hid (b1 = true → S3 = tQ (.node 9 [] lo 0 [] 1 x .none)) := fun e1 => by
      subst hT3 hT2 hT1
      rw [HS1.out e1, ← HLL.out]
      show _ = bkT (isS x || isT x) (tQ x) ++ (sLeft ++ (itoa lo ++ sRight))
      simp only [List.append_assoc]
    have HOK : Hid (r = (b1 && decide (pikN x + 1 ≤ 64))) := by rw [Hid, ← HR.out, okT_pik, HBO.out]
    have hfl : S3.length ≤ 200000000 * (1 + sizQ x) := by omega
    clear hT1 hT2 hT3
    go_wp2_with fail
    refine kl.mono ?_
    rintro e w2 ⟨rfl, hbw2⟩
    have HW2 : Hid (Below w.heap.size w w2) := bt HW1.out hbw2
    have HX2 : Hid (Bx w2 w.heap.size [.int .i64 9, .string (tx []), .int .i64 lo, .int .i64 0, .slice wa 0 wc, .slice (some ⟨bb, ob, none⟩) 1 kc]) := HX1.out.at hbw2
    clear kl hbw2 z0 z1 z2 z3 z4 z5
    have z0 := (HX2.out 0 _ rfl).c
    have z1 := (HX2.out 1 _ rfl).c
    have z2 := (HX2.out 2 _ rfl).c
    have z3 := (HX2.out 3 _ rfl).c
    have z4 := (HX2.out 4 _ rfl).c
    have z5 := (HX2.out 5 _ rfl).c
    cases b1 with
    | false =>
      obtain rfl : r = false := by rw [HOK.out]; simp
      go_wp2
      go_ret2
      exact ⟨⟨S3, rfl, fun h => (by cases h), by omega⟩, HW2.out⟩
    | true =>
    have hQ : QI w2 B (.node 9 [] lo 0 [] 1 x .none) [.int .i64 9, .string (tx []), .int .i64 lo, .int .i64 0, .slice wa 0 wc, .slice (some ⟨bb, ob, none⟩) 1 kc] := QI.keep (HW2.out.mono hB) _ HQ0.out
    have hcn : pikN (.node 9 [] lo 0 [] 1 x .none) = pikN x + 1 := rfl
    have hcs := pik_siz x
    have kc2 := picks_any (.node 9 [] lo 0 [] 1 x .none) w2 B _ (Nat.le_trans hB HW2.out.size) hQ HSN.out (by omega)
    rw [hcn] at kc2
    obtain ⟨M, hM⟩ : ∃ M, pikN x + 1 = M := ⟨_, rfl⟩
    rw [hM] at kc2
    have HMM : Hid (pikN x + 1 = M) := hM
    clear hQ hcn hcs hM
    go_wp2_with fail
    refine kc2.mono ?_
    rintro e w3 ⟨rfl, hbw3⟩
    have HW3 : Hid (Below w.heap.size w w3) := bt HW2.out hbw3
    clear kc2 hbw3
    by_cases hM64 : M ≤ 64
    · have d1 : (M : Int) ≤ 64 := by omega
      have d2 : decide ((M : Int) ≤ 64) = true := by simpa using d1
      have d3 : decide (M ≤ 64) = true := by simpa using hM64
      obtain rfl : r = true := by rw [HOK.out, HMM.out]; simpa using hM64
      go_wp2
      go_ret2
      exact ⟨⟨S3, rfl, fun _ => HFI.out (by first | rfl | trivial), by omega⟩, HW3.out⟩
    · have d1 : ¬ (M : Int) ≤ 64 := by omega
      have d2 : decide ((M : Int) ≤ 64) = false := by simpa using d1
      have d3 : decide (M ≤ 64) = false := by simpa using hM64
      obtain rfl : r = false := by rw [HOK.out, HMM.out]; simpa using hM64
      go_wp2
      go_ret2
      exact ⟨⟨S3, rfl, fun h => (by cases h), by omega⟩, HW3.out⟩
  by_cases e5 : kdx = 5
  · obtain rfl : true = bs := by rw [hbk]; simp [e5]
    have kx := brk43 hTx W1 B _ lv (Nat.le_trans hB HV1.out.size) (QI.keep (HV1.out.mono hB) _ HXS.out) hSx (by omega) (by omega) (by omega)
    obtain ⟨b1, hb1⟩ : ∃ b, okT x (lvl (lv + 1)) = b := ⟨_, rfl⟩
    rw [hb1] at kx
    have HBO : Hid ((if (isS x || isT x) = true then okT x m else okT x (m + 1)) = b1) := by rw [Hid, HBS.out, if_pos rfl, ← hb1, HM1.out]
    have HSX : Hid (∀ s : By, (b1 = true → s = bkT true (tQ x)) → b1 = true → s = bkT (isS x || isT x) (tQ x)) := fun s h e => by rw [HBS.out]; exact h e
    clear hb1 hbk
    subst e5
    go_enter Tryz.func18, Tryz.ntmps18
    go_wp2_with fail
    clear hW0 hW1
    refine kx.mono ?_
    rintro e w1 ⟨⟨s1, rfl, hs1, hl1⟩, hbw1⟩
    have HS1 : Hid (b1 = true → s1 = bkT (isS x || isT x) (tQ x)) := HSX.out s1 hs1
    have HW1 : Hid (Below w.heap.size w w1) := bt HV1.out hbw1
    have HX1 : Hid (Bx w1 w.heap.size [.int .i64 9, .string (tx []), .int .i64 lo, .int .i64 0, .slice wa 0 wc, .slice (some ⟨bb, ob, none⟩) 1 kc]) := HXB.out.at hbw1
    clear kx hs1 hbw1 y0 y1 y2 y3 y4 y5 HSX
    have z0 := (HX1.out 0 _ rfl).c
    have z1 := (HX1.out 1 _ rfl).c
    have z2 := (HX1.out 2 _ rfl).c
    have z3 := (HX1.out 3 _ rfl).c
    have z4 := (HX1.out 4 _ rfl).c
    have z5 := (HX1.out 5 _ rfl).c
    have kl := HKL.out w1
    have a1 := tx_addR (s1) (sLeft)
    have l1 : ¬ (9223372036854775807 < (s1 : By).length + (sLeft : By).length) := by first | omega | (simp only [List.length_cons, List.length_nil]; omega)
    obtain ⟨S1, hT1⟩ : ∃ S, (s1 : By) ++ (sLeft) = S := ⟨_, rfl⟩
    rw [hT1] at a1
    have hq1 : S1.length = (s1 : By).length + (sLeft : By).length := by rw [← hT1, List.length_append]
    try simp only [List.length_cons, List.length_nil] at hq1
    have a2 := tx_addR (S1) (L)
    have l2 : ¬ (9223372036854775807 < (S1 : By).length + (L : By).length) := by first | omega | (simp only [List.length_cons, List.length_nil]; omega)
    obtain ⟨S2, hT2⟩ : ∃ S, (S1 : By) ++ (L) = S := ⟨_, rfl⟩
    rw [hT2] at a2
    have hq2 : S2.length = (S1 : By).length + (L : By).length := by rw [← hT2, List.length_append]
    try simp only [List.length_cons, List.length_nil] at hq2
    have a3 := tx_addR (S2) (sRight)
    have l3 : ¬ (9223372036854775807 < (S2 : By).length + (sRight : By).length) := by first | omega | (simp only [List.length_cons, List.length_nil]; omega)
    obtain ⟨S3, hT3⟩ : ∃ S, (S2 : By) ++ (sRight) = S := ⟨_, rfl⟩
    rw [hT3] at a3
    have hq3 : S3.length = (S2 : By).length + (sRight : By).length := by rw [← hT3, List.length_append]
    try simp only [List.length_cons, List.length_nil] at hq3
    have HFI : Hid (b1 = true → S3 = tQ (.node 9 [] lo 0 [] 1 x .none)) := fun e1 => by
      subst hT3 hT2 hT1
      rw [HS1.out e1, ← HLL.out]
      show _ = bkT (isS x || isT x) (tQ x) ++ (sLeft ++ (itoa lo ++ sRight))
      simp only [List.append_assoc]
    have HOK : Hid (r = (b1 && decide (pikN x + 1 ≤ 64))) := by rw [Hid, ← HR.out, okT_pik, HBO.out]
    have hfl : S3.length ≤ 200000000 * (1 + sizQ x) := by omega
    clear hT1 hT2 hT3
    go_wp2_with fail
    refine kl.mono ?_
    rintro e w2 ⟨rfl, hbw2⟩
    have HW2 : Hid (Below w.heap.size w w2) := bt HW1.out hbw2
    have HX2 : Hid (Bx w2 w.heap.size [.int .i64 9, .string (tx []), .int .i64 lo, .int .i64 0, .slice wa 0 wc, .slice (some ⟨bb, ob, none⟩) 1 kc]) := HX1.out.at hbw2
    clear kl hbw2 z0 z1 z2 z3 z4 z5
    have z0 := (HX2.out 0 _ rfl).c
    have z1 := (HX2.out 1 _ rfl).c
    have z2 := (HX2.out 2 _ rfl).c
    have z3 := (HX2.out 3 _ rfl).c
    have z4 := (HX2.out 4 _ rfl).c
    have z5 := (HX2.out 5 _ rfl).c
    cases b1 with
    | false =>
      obtain rfl : r = false := by rw [HOK.out]; simp
      go_wp2
      go_ret2
      exact ⟨⟨S3, rfl, fun h => (by cases h), by omega⟩, HW2.out⟩
    | true =>
    have hQ : QI w2 B (.node 9 [] lo 0 [] 1 x .none) [.int .i64 9, .string (tx []), .int .i64 lo, .int .i64 0, .slice wa 0 wc, .slice (some ⟨bb, ob, none⟩) 1 kc] := QI.keep (HW2.out.mono hB) _ HQ0.out
    have hcn : pikN (.node 9 [] lo 0 [] 1 x .none) = pikN x + 1 := rfl
    have hcs := pik_siz x
    have kc2 := picks_any (.node 9 [] lo 0 [] 1 x .none) w2 B _ (Nat.le_trans hB HW2.out.size) hQ HSN.out (by omega)
    rw [hcn] at kc2
    obtain ⟨M, hM⟩ : ∃ M, pikN x + 1 = M := ⟨_, rfl⟩
    rw [hM] at kc2
    have HMM : Hid (pikN x + 1 = M) := hM
    clear hQ hcn hcs hM
    go_wp2_with fail
    refine kc2.mono ?_
    rintro e w3 ⟨rfl, hbw3⟩
    have HW3 : Hid (Below w.heap.size w w3) := bt HW2.out hbw3
    clear kc2 hbw3
    by_cases hM64 : M ≤ 64
    · have d1 : (M : Int) ≤ 64 := by omega
      have d2 : decide ((M : Int) ≤ 64) = true := by simpa using d1
      have d3 : decide (M ≤ 64) = true := by simpa using hM64
      obtain rfl : r = true := by rw [HOK.out, HMM.out]; simpa using hM64
      go_wp2
      go_ret2
      exact ⟨⟨S3, rfl, fun _ => HFI.out (by first | rfl | trivial), by omega⟩, HW3.out⟩
    · have d1 : ¬ (M : Int) ≤ 64 := by omega
      have d2 : decide ((M : Int) ≤ 64) = false := by simpa using d1
      have d3 : decide (M ≤ 64) = false := by simpa using hM64
      obtain rfl : r = false := by rw [HOK.out, HMM.out]; simpa using hM64
      go_wp2
      go_ret2
      exact ⟨⟨S3, rfl, fun h => (by cases h), by omega⟩, HW3.out⟩
  by_cases e6 : kdx = 6
  · obtain rfl : true = bs := by rw [hbk]; simp [e6]
    have kx := brk43 hTx W1 B _ lv (Nat.le_trans hB HV1.out.size) (QI.keep (HV1.out.mono hB) _ HXS.out) hSx (by omega) (by omega) (by omega)
    obtain ⟨b1, hb1⟩ : ∃ b, okT x (lvl (lv + 1)) = b := ⟨_, rfl⟩
    rw [hb1] at kx
    have HBO : Hid ((if (isS x || isT x) = true then okT x m else okT x (m + 1)) = b1) := by rw [Hid, HBS.out, if_pos rfl, ← hb1, HM1.out]
    have HSX : Hid (∀ s : By, (b1 = true → s = bkT true (tQ x)) → b1 = true → s = bkT (isS x || isT x) (tQ x)) := fun s h e => by rw [HBS.out]; exact h e
    clear hb1 hbk
    subst e6
    go_enter Tryz.func18, Tryz.ntmps18
    go_wp2_with fail
    clear hW0 hW1
    refine kx.mono ?_
    rintro e w1 ⟨⟨s1, rfl, hs1, hl1⟩, hbw1⟩
    have HS1 : Hid (b1 = true → s1 = bkT (isS x || isT x) (tQ x)) := HSX.out s1 hs1
    have HW1 : Hid (Below w.heap.size w w1) := bt HV1.out hbw1
    have HX1 : Hid (Bx w1 w.heap.size [.int .i64 9, .string (tx []), .int .i64 lo, .int .i64 0, .slice wa 0 wc, .slice (some ⟨bb, ob, none⟩) 1 kc]) := HXB.out.at hbw1
    clear kx hs1 hbw1 y0 y1 y2 y3 y4 y5 HSX
    have z0 := (HX1.out 0 _ rfl).c
    have z1 := (HX1.out 1 _ rfl).c
    have z2 := (HX1.out 2 _ rfl).c
    have z3 := (HX1.out 3 _ rfl).c
    have z4 := (HX1.out 4 _ rfl).c
    have z5 := (HX1.out 5 _ rfl).c
    have kl := HKL.out w1
    have a1 := tx_addR (s1) (sLeft)
    have l1 : ¬ (9223372036854775807 < (s1 : By).length + (sLeft : By).length) := by first | omega | (simp only [List.length_cons, List.length_nil]; omega)
    obtain ⟨S1, hT1⟩ : ∃ S, (s1 : By) ++ (sLeft) = S := ⟨_, rfl⟩
    rw [hT1] at a1
    have hq1 : S1.length = (s1 : By).length + (sLeft : By).length := by rw [← hT1, List.length_append]
    try simp only [List.length_cons, List.length_nil] at hq1
    have a2 := tx_addR (S1) (L)
    have l2 : ¬ (9223372036854775807 < (S1 : By).length + (L : By).length) := by first | omega | (simp only [List.length_cons, List.length_nil]; omega)
    obtain ⟨S2, hT2⟩ : ∃ S, (S1 : By) ++ (L) = S := ⟨_, rfl⟩
    rw [hT2] at a2
    have hq2 : S2.length = (S1 : By).length + (L : By).length := by rw [← hT2, List.length_append]
    try simp only [List.length_cons, List.length_nil] at hq2
    have a3 := tx_addR (S2) (sRight)
    have l3 : ¬ (9223372036854775807 < (S2 : By).length + (sRight : By).length) := by first | omega | (simp only [List.length_cons, List.length_nil]; omega)
    obtain ⟨S3, hT3⟩ : ∃ S, (S2 : By) ++ (sRight) = S := ⟨_, rfl⟩
    rw [hT3] at a3
    have hq3 : S3.length = (S2 : By).length + (sRight : By).length := by rw [← hT3, List.length_append]
    try simp only [List.length_cons, List.length_nil] at hq3
    have HFI : Hid (b1 = true → S3 = tQ (.node 9 [] lo 0 [] 1 x .none)) := fun e1 => by
      subst hT3 hT2 hT1
      rw [HS1.out e1, ← HLL.out]
      show _ = bkT (isS x || isT x) (tQ x) ++ (sLeft ++ (itoa lo ++ sRight))
      simp only [List.append_assoc]
    have HOK : Hid (r = (b1 && decide (pikN x + 1 ≤ 64))) := by rw [Hid, ← HR.out, okT_pik, HBO.out]
    have hfl : S3.length ≤ 200000000 * (1 + sizQ x) := by omega
    clear hT1 hT2 hT3
    go_wp2_with fail
    refine kl.mono ?_
    rintro e w2 ⟨rfl, hbw2⟩
    have HW2 : Hid (Below w.heap.size w w2) := bt HW1.out hbw2
    have HX2 : Hid (Bx w2 w.heap.size [.int .i64 9, .string (tx []), .int .i64 lo, .int .i64 0, .slice wa 0 wc, .slice (some ⟨bb, ob, none⟩) 1 kc]) := HX1.out.at hbw2
    clear kl hbw2 z0 z1 z2 z3 z4 z5
    have z0 := (HX2.out 0 _ rfl).c
    have z1 := (HX2.out 1 _ rfl).c
    have z2 := (HX2.out 2 _ rfl).c
    have z3 := (HX2.out 3 _ rfl).c
    have z4 := (HX2.out 4 _ rfl).c
    have z5 := (HX2.out 5 _ rfl).c
    cases b1 with
    | false =>
      obtain rfl : r = false := by rw [HOK.out]; simp
      go_wp2
      go_ret2
      exact ⟨⟨S3, rfl, fun h => (by cases h), by omega⟩, HW2.out⟩
    | true =>
    have hQ : QI w2 B (.node 9 [] lo 0 [] 1 x .none) [.int .i64 9, .string (tx []), .int .i64 lo, .int .i64 0, .slice wa 0 wc, .slice (some ⟨bb, ob, none⟩) 1 kc] := QI.keep (HW2.out.mono hB) _ HQ0.out
    have hcn : pikN (.node 9 [] lo 0 [] 1 x .none) = pikN x + 1 := rfl
    have hcs := pik_siz x
    have kc2 := picks_any (.node 9 [] lo 0 [] 1 x .none) w2 B _ (Nat.le_trans hB HW2.out.size) hQ HSN.out (by omega)
    rw [hcn] at kc2
    obtain ⟨M, hM⟩ : ∃ M, pikN x + 1 = M := ⟨_, rfl⟩
    rw [hM] at kc2
    have HMM : Hid (pikN x + 1 = M) := hM
    clear hQ hcn hcs hM
    go_wp2_with fail
    refine kc2.mono ?_
    rintro e w3 ⟨rfl, hbw3⟩
    have HW3 : Hid (Below w.heap.size w w3) := bt HW2.out hbw3
    clear kc2 hbw3
    by_cases hM64 : M ≤ 64
    · have d1 : (M : Int) ≤ 64 := by omega
      have d2 : decide ((M : Int) ≤ 64) = true := by simpa using d1
      have d3 : decide (M ≤ 64) = true := by simpa using hM64
      obtain rfl : r = true := by rw [HOK.out, HMM.out]; simpa using hM64
      go_wp2
      go_ret2
      exact ⟨⟨S3, rfl, fun _ => HFI.out (by first | rfl | trivial), by omega⟩, HW3.out⟩
    · have d1 : ¬ (M : Int) ≤ 64 := by omega
      have d2 : decide ((M : Int) ≤ 64) = false := by simpa using d1
      have d3 : decide (M ≤ 64) = false := by simpa using hM64
      obtain rfl : r = false := by rw [HOK.out, HMM.out]; simpa using hM64
      go_wp2
      go_ret2
      exact ⟨⟨S3, rfl, fun h => (by cases h), by omega⟩, HW3.out⟩
  have f4 : (kdx == 4) = false := by simpa using e4
  have f5 : (kdx == 5) = false := by simpa using e5
  have f6 : (kdx == 6) = false := by simpa using e6
  obtain rfl : false = bs := by rw [hbk]; simp [e4, e5, e6]
  have kx := hTx W1 B _ lv (Nat.le_trans hB HV1.out.size) (QI.keep (HV1.out.mono hB) _ HXS.out) hSx (by omega) (by omega) (by omega)
  obtain ⟨b1, hb1⟩ : ∃ b, okT x (lvl lv) = b := ⟨_, rfl⟩
  rw [hb1] at kx
  have HBO : Hid ((if (isS x || isT x) = true then okT x m else okT x (m + 1)) = b1) := by rw [Hid, HBS.out, if_neg (by decide), ← hb1, HM.out]
  have HSX : Hid (∀ s : By, (b1 = true → s = tQ x) → b1 = true → s = bkT (isS x || isT x) (tQ x)) := fun s h e => by rw [HBS.out]; exact h e
  clear hb1 hbk
  go_enter Tryz.func18, Tryz.ntmps18
  go_wp2_with fail
  clear hW0 hW1
  refine kx.mono ?_
  rintro e w1 ⟨⟨s1, rfl, hs1, hl1⟩, hbw1⟩
  have HS1 : Hid (b1 = true → s1 = bkT (isS x || isT x) (tQ x)) := HSX.out s1 hs1
  have HW1 : Hid (Below w.heap.size w w1) := bt HV1.out hbw1
  have HX1 : Hid (Bx w1 w.heap.size [.int .i64 9, .string (tx []), .int .i64 lo, .int .i64 0, .slice wa 0 wc, .slice (some ⟨bb, ob, none⟩) 1 kc]) := HXB.out.at hbw1
  clear kx hs1 hbw1 y0 y1 y2 y3 y4 y5 HSX
  have z0 := (HX1.out 0 _ rfl).c
  have z1 := (HX1.out 1 _ rfl).c
  have z2 := (HX1.out 2 _ rfl).c
  have z3 := (HX1.out 3 _ rfl).c
  have z4 := (HX1.out 4 _ rfl).c
  have z5 := (HX1.out 5 _ rfl).c
  have kl := HKL.out w1
  have a1 := tx_addR (s1) (sLeft)
  have l1 : ¬ (9223372036854775807 < (s1 : By).length + (sLeft : By).length) := by first | omega | (simp only [List.length_cons, List.length_nil]; omega)
  obtain ⟨S1, hT1⟩ : ∃ S, (s1 : By) ++ (sLeft) = S := ⟨_, rfl⟩
  rw [hT1] at a1
  have hq1 : S1.length = (s1 : By).length + (sLeft : By).length := by rw [← hT1, List.length_append]
  try simp only [List.length_cons, List.length_nil] at hq1
  have a2 := tx_addR (S1) (L)
  have l2 : ¬ (9223372036854775807 < (S1 : By).length + (L : By).length) := by first | omega | (simp only [List.length_cons, List.length_nil]; omega)
  obtain ⟨S2, hT2⟩ : ∃ S, (S1 : By) ++ (L) = S := ⟨_, rfl⟩
  rw [hT2] at a2
  have hq2 : S2.length = (S1 : By).length + (L : By).length := by rw [← hT2, List.length_append]
  try simp only [List.length_cons, List.length_nil] at hq2
  have a3 := tx_addR (S2) (sRight)
  have l3 : ¬ (9223372036854775807 < (S2 : By).length + (sRight : By).length) := by first | omega | (simp only [List.length_cons, List.length_nil]; omega)
  obtain ⟨S3, hT3⟩ : ∃ S, (S2 : By) ++ (sRight) = S := ⟨_, rfl⟩
  rw [hT3] at a3
  have hq3 : S3.length = (S2 : By).length + (sRight : By).length := by rw [← hT3, List.length_append]
  try simp only [List.length_cons, List.length_nil] at hq3
  have HFI : Hid (b1 = true → S3 = tQ (.node 9 [] lo 0 [] 1 x .none)) := fun e1 => by
    subst hT3 hT2 hT1
    rw [HS1.out e1, ← HLL.out]
    show _ = bkT (isS x || isT x) (tQ x) ++ (sLeft ++ (itoa lo ++ sRight))
    simp only [List.append_assoc]
  have HOK : Hid (r = (b1 && decide (pikN x + 1 ≤ 64))) := by rw [Hid, ← HR.out, okT_pik, HBO.out]
  have hfl : S3.length ≤ 200000000 * (1 + sizQ x) := by omega
  clear hT1 hT2 hT3
  go_wp2_with fail
  refine kl.mono ?_
  rintro e w2 ⟨rfl, hbw2⟩
  have HW2 : Hid (Below w.heap.size w w2) := bt HW1.out hbw2
  have HX2 : Hid (Bx w2 w.heap.size [.int .i64 9, .string (tx []), .int .i64 lo, .int .i64 0, .slice wa 0 wc, .slice (some ⟨bb, ob, none⟩) 1 kc]) := HX1.out.at hbw2
  clear kl hbw2 z0 z1 z2 z3 z4 z5
  have z0 := (HX2.out 0 _ rfl).c
  have z1 := (HX2.out 1 _ rfl).c
  have z2 := (HX2.out 2 _ rfl).c
  have z3 := (HX2.out 3 _ rfl).c
  have z4 := (HX2.out 4 _ rfl).c
  have z5 := (HX2.out 5 _ rfl).c
  cases b1 with
  | false =>
    obtain rfl : r = false := by rw [HOK.out]; simp
    go_wp2
    go_ret2
    exact ⟨⟨S3, rfl, fun h => (by cases h), by omega⟩, HW2.out⟩
  | true =>
  have hQ : QI w2 B (.node 9 [] lo 0 [] 1 x .none) [.int .i64 9, .string (tx []), .int .i64 lo, .int .i64 0, .slice wa 0 wc, .slice (some ⟨bb, ob, none⟩) 1 kc] := QI.keep (HW2.out.mono hB) _ HQ0.out
  have hcn : pikN (.node 9 [] lo 0 [] 1 x .none) = pikN x + 1 := rfl
  have hcs := pik_siz x
  have kc2 := picks_any (.node 9 [] lo 0 [] 1 x .none) w2 B _ (Nat.le_trans hB HW2.out.size) hQ HSN.out (by omega)
  rw [hcn] at kc2
  obtain ⟨M, hM⟩ : ∃ M, pikN x + 1 = M := ⟨_, rfl⟩
  rw [hM] at kc2
  have HMM : Hid (pikN x + 1 = M) := hM
  clear hQ hcn hcs hM
  go_wp2_with fail
  refine kc2.mono ?_
  rintro e w3 ⟨rfl, hbw3⟩
  have HW3 : Hid (Below w.heap.size w w3) := bt HW2.out hbw3
  clear kc2 hbw3
  by_cases hM64 : M ≤ 64
  · have d1 : (M : Int) ≤ 64 := by omega
    have d2 : decide ((M : Int) ≤ 64) = true := by simpa using d1
    have d3 : decide (M ≤ 64) = true := by simpa using hM64
    obtain rfl : r = true := by rw [HOK.out, HMM.out]; simpa using hM64
    go_wp2
    go_ret2
    exact ⟨⟨S3, rfl, fun _ => HFI.out (by first | rfl | trivial), by omega⟩, HW3.out⟩
  · have d1 : ¬ (M : Int) ≤ 64 := by omega
    have d2 : decide ((M : Int) ≤ 64) = false := by simpa using d1
    have d3 : decide (M ≤ 64) = false := by simpa using hM64
    obtain rfl : r = false := by rw [HOK.out, HMM.out]; simpa using hM64
    go_wp2
    go_ret2
    exact ⟨⟨S3, rfl, fun h => (by cases h), by omega⟩, HW3.out⟩
end Go.Proofs.YtidfkencjdjkbaaGreatDoor
