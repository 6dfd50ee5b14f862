import Derived.Test.YtidfkencjdjkbaaGreatDoorQn38
/-
  The document's own answer, chapter 15, Print: the text of a question, kind by kind.
-/
namespace Go.Proofs.YtidfkencjdjkbaaGreatDoor
open Go.RowKit Sp
open Go.Lib (decDigits itoa)

set_option maxHeartbeats 4000000 in
set_option maxRecDepth 100000 in
theorem txt5 (x : Qu) (hSx : Say x) (hTx : TX x) (y : Qu) (hSy : Say y) (hTy : TX y) (w : World) (B : Nat) (cs : List Value) (lv : Int) (hB : B ≤ w.heap.size) (h : QI w B (.node 5 [] 0 0 [] 2 x y) cs) (hz : sizQ (.node 5 [] 0 0 [] 2 x y) ≤ 1073741824) (h1 : 1 ≤ lv) (h64 : lv ≤ 64) : Calls Tryz.prog 18 #[.agg cs.toArray, .int .i64 lv] w (TxA (okT (.node 5 [] 0 0 [] 2 x y) (lvl lv)) (tQ (.node 5 [] 0 0 [] 2 x y)) (200000000 * sizQ (.node 5 [] 0 0 [] 2 x y)) w) := by
  have HQ0 : Hid (QI w B (.node 5 [] 0 0 [] 2 x y) cs) := h
  have HSN : Hid (Say (.node 5 [] 0 0 [] 2 x y)) := .inr (.inr (.inr (.inl ⟨by decide, rfl, rfl, rfl, rfl, rfl, hSx, hSy⟩)))
  obtain ⟨wv, ka, kc, rfl, hTI, hnk, -, -, -, -, -, -, -, hkids⟩ := h
  have HTI : Hid (TI w B [] wv) := hTI
  obtain ⟨wa, wc, rfl, hwc, -, -, -⟩ := hTI
  have HL0 : Hid (([] : List Tst).length = 0) := rfl
  rw [HL0.out]
  obtain ⟨m, hm⟩ : ∃ m : Nat, lvl lv = m + 1 := ⟨(64 - lv).toNat, by unfold lvl; omega⟩
  have HM : Hid (lvl lv = m + 1) := hm
  have HM1 : Hid (lvl (lv + 1) = m) := by unfold lvl at *; rw [Hid]; omega
  have hgl : ¬ (64 : Int) < lv := by omega
  have hgd : decide ((64 : Int) < lv) = false := by simpa using hgl
  obtain ⟨W0, hW0⟩ : ∃ W0, w.alloc (.cells #[.int .i64 5, .string (tx []), .int .i64 0, .int .i64 0, .slice wa 0 wc, .slice ka 2 kc] 25) = W0 := ⟨_, rfl⟩
  have HB0 : Hid (Below w.heap.size w W0) := hW0 ▸ ba _ _
  have HX0 : Hid (Bx W0 w.heap.size [.int .i64 5, .string (tx []), .int .i64 0, .int .i64 0, .slice wa 0 wc, .slice ka 2 kc]) := hW0 ▸ Bx.new w [.int .i64 5, .string (tx []), .int .i64 0, .int .i64 0, .slice wa 0 wc, .slice ka 2 kc] 25 rfl
  have z0 := (HX0.out 0 _ rfl).c
  have z1 := (HX0.out 1 _ rfl).c
  have z2 := (HX0.out 2 _ rfl).c
  have z3 := (HX0.out 3 _ rfl).c
  have z4 := (HX0.out 4 _ rfl).c
  have z5 := (HX0.out 5 _ rfl).c
  rw [hm]
  obtain ⟨r, hr⟩ : ∃ r, okT (.node 5 [] 0 0 [] 2 x y) (m + 1) = r := ⟨_, rfl⟩
  have HR : Hid (okT (.node 5 [] 0 0 [] 2 x y) (m + 1) = r) := hr
  rw [hr]
  clear hr
  obtain ⟨bb, ob, rfl, hbb, ⟨xs, hxs, hxc⟩, hyy⟩ := hkids (by omega) (by omega)
  have hbw : bb < w.heap.size := by omega
  obtain ⟨kdx, cx, lox, hix, wax, wnx, wcx, kax, knx, kcx, rfl⟩ := hxs.six
  have HXC : Hid (∀ (j : Nat) u, [.int .i64 kdx, .string (tx cx), .int .i64 lox, .int .i64 hix, .slice wax wnx wcx, .slice kax knx kcx][j]? = some u → w.cell? ⟨bb, ob + j, none⟩ = some u) := hxc
  have HXS : Hid (QI w B x [.int .i64 kdx, .string (tx cx), .int .i64 lox, .int .i64 hix, .slice wax wnx wcx, .slice kax knx kcx]) := hxs
  clear hxc hxs
  obtain ⟨ys, hys, hyc⟩ := hyy (by omega)
  obtain ⟨kdy, cy, loy, hiy, way, wny, wcy, kay, kny, kcy, rfl⟩ := hys.six
  have HYC : Hid (∀ (j : Nat) u, [.int .i64 kdy, .string (tx cy), .int .i64 loy, .int .i64 hiy, .slice way wny wcy, .slice kay kny kcy][j]? = some u → w.cell? ⟨bb, ob + 6 + j, none⟩ = some u) := hyc
  have HYS : Hid (QI w B y [.int .i64 kdy, .string (tx cy), .int .i64 loy, .int .i64 hiy, .slice way wny wcy, .slice kay kny kcy]) := hys
  clear hyc hys
  have hsz : sizQ (.node 5 [] 0 0 [] 2 x y) = 1 + sizQ x + sizQ y := by simp [sizQ]; try omega
  rw [hsz] at hz ⊢
  clear hkids hyy hm
  have kx := hTx W0 B _ lv (Nat.le_trans hB HB0.out.size) (QI.keep (HB0.out.mono hB) _ HXS.out) hSx (by omega) (by omega) (by omega)
  have xp0 : W0.cell? ⟨bb, ob, none⟩ = some (.int .i64 kdx) := (HB0.out.cell (p := ⟨bb, ob, none⟩) hbw).trans (HXC.out 0 _ rfl)
  have xp1 : W0.cell? ⟨bb, ob + 1, none⟩ = some (.string (tx cx)) := (HB0.out.cell (p := ⟨bb, ob + 1, none⟩) hbw).trans (HXC.out 1 _ rfl)
  have xp2 : W0.cell? ⟨bb, ob + 2, none⟩ = some (.int .i64 lox) := (HB0.out.cell (p := ⟨bb, ob + 2, none⟩) hbw).trans (HXC.out 2 _ rfl)
  have xp3 : W0.cell? ⟨bb, ob + 3, none⟩ = some (.int .i64 hix) := (HB0.out.cell (p := ⟨bb, ob + 3, none⟩) hbw).trans (HXC.out 3 _ rfl)
  have xp4 : W0.cell? ⟨bb, ob + 4, none⟩ = some (.slice wax wnx wcx) := (HB0.out.cell (p := ⟨bb, ob + 4, none⟩) hbw).trans (HXC.out 4 _ rfl)
  have xp5 : W0.cell? ⟨bb, ob + 5, none⟩ = some (.slice kax knx kcx) := (HB0.out.cell (p := ⟨bb, ob + 5, none⟩) hbw).trans (HXC.out 5 _ rfl)
  obtain ⟨b1, hb1⟩ : ∃ b, okT x (lvl lv) = b := ⟨_, rfl⟩
  rw [hb1] at kx
  have HB1 : Hid (okT x (lvl lv) = b1) := hb1
  clear hb1
  go_enter Tryz.func18, Tryz.ntmps18
  go_wp2_with fail
  clear hW0
  refine kx.mono ?_
  rintro e w1 ⟨⟨s1, rfl, hs1, hl1⟩, hbw1⟩
  have HS1 : Hid _ := hs1
  have HW1 : Hid (Below w.heap.size w w1) := bt HB0.out hbw1
  have HX1 : Hid (Bx w1 w.heap.size [.int .i64 5, .string (tx []), .int .i64 0, .int .i64 0, .slice wa 0 wc, .slice (some ⟨bb, ob, none⟩) 2 kc]) := HX0.out.at hbw1
  clear kx hs1 hbw1 z0 z1 z2 z3 z4 z5 xp0 xp1 xp2 xp3 xp4 xp5
  have z0 := (HX1.out 0 _ rfl).c
  have z1 := (HX1.out 1 _ rfl).c
  have z2 := (HX1.out 2 _ rfl).c
  have z3 := (HX1.out 3 _ rfl).c
  have z4 := (HX1.out 4 _ rfl).c
  have z5 := (HX1.out 5 _ rfl).c
  have ky := near41 hTy w1 B _ lv (Nat.le_trans hB HW1.out.size) (QI.keep (HW1.out.mono hB) _ HYS.out) hSy (by omega) (by omega) (by omega)
  obtain ⟨b2, hb2⟩ : ∃ b, (if isS y = true then okT y (lvl (lv + 1)) else okT y (lvl lv)) = b := ⟨_, rfl⟩
  rw [hb2] at ky
  have HB2 : Hid ((if isS y = true then okT y (lvl (lv + 1)) else okT y (lvl lv)) = b2) := hb2
  clear hb2
  have yp0 : w1.cell? ⟨bb, ob + 6, none⟩ = some (.int .i64 kdy) := (HW1.out.cell (p := ⟨bb, ob + 6, none⟩) hbw).trans (HYC.out 0 _ rfl)
  have yp1 : w1.cell? ⟨bb, ob + 6 + 1, none⟩ = some (.string (tx cy)) := (HW1.out.cell (p := ⟨bb, ob + 6 + 1, none⟩) hbw).trans (HYC.out 1 _ rfl)
  have yp2 : w1.cell? ⟨bb, ob + 6 + 2, none⟩ = some (.int .i64 loy) := (HW1.out.cell (p := ⟨bb, ob + 6 + 2, none⟩) hbw).trans (HYC.out 2 _ rfl)
  have yp3 : w1.cell? ⟨bb, ob + 6 + 3, none⟩ = some (.int .i64 hiy) := (HW1.out.cell (p := ⟨bb, ob + 6 + 3, none⟩) hbw).trans (HYC.out 3 _ rfl)
  have yp4 : w1.cell? ⟨bb, ob + 6 + 4, none⟩ = some (.slice way wny wcy) := (HW1.out.cell (p := ⟨bb, ob + 6 + 4, none⟩) hbw).trans (HYC.out 4 _ rfl)
  have yp5 : w1.cell? ⟨bb, ob + 6 + 5, none⟩ = some (.slice kay kny kcy) := (HW1.out.cell (p := ⟨bb, ob + 6 + 5, none⟩) hbw).trans (HYC.out 5 _ rfl)
  go_wp2_with fail
  refine ky.mono ?_
  rintro e w2 ⟨⟨s2, rfl, hs2, hl2⟩, hbw2⟩
  have HS2 : Hid _ := hs2
  have HW2 : Hid (Below w.heap.size w w2) := bt HW1.out hbw2
  have HX2 : Hid (Bx w2 w.heap.size [.int .i64 5, .string (tx []), .int .i64 0, .int .i64 0, .slice wa 0 wc, .slice (some ⟨bb, ob, none⟩) 2 kc]) := HX1.out.at hbw2
  clear ky hs2 hbw2 z0 z1 z2 z3 z4 z5 yp0 yp1 yp2 yp3 yp4 yp5
  have z0 := (HX2.out 0 _ rfl).c
  have z1 := (HX2.out 1 _ rfl).c
  have z2 := (HX2.out 2 _ rfl).c
  have z3 := (HX2.out 3 _ rfl).c
  have z4 := (HX2.out 4 _ rfl).c
  have z5 := (HX2.out 5 _ rfl).c
  have a1 := tx_addR (s1) (([32, 45, 32] : By))
  have l1 : ¬ (9223372036854775807 < (s1 : By).length + (([32, 45, 32] : By) : By).length) := by first | omega | (simp only [List.length_cons, List.length_nil]; omega)
  obtain ⟨S1, hT1⟩ : ∃ S, (s1 : By) ++ (([32, 45, 32] : By)) = S := ⟨_, rfl⟩
  rw [hT1] at a1
  have hq1 : S1.length = (s1 : By).length + (([32, 45, 32] : By) : By).length := by rw [← hT1, List.length_append]
  try simp only [List.length_cons, List.length_nil] at hq1
  have a2 := tx_addR (S1) (s2)
  have l2 : ¬ (9223372036854775807 < (S1 : By).length + (s2 : By).length) := by first | omega | (simp only [List.length_cons, List.length_nil]; omega)
  obtain ⟨S2, hT2⟩ : ∃ S, (S1 : By) ++ (s2) = S := ⟨_, rfl⟩
  rw [hT2] at a2
  have hq2 : S2.length = (S1 : By).length + (s2 : By).length := by rw [← hT2, List.length_append]
  try simp only [List.length_cons, List.length_nil] at hq2
  have HFI : Hid (b1 = true → b2 = true → S2 = tQ (.node 5 [] 0 0 [] 2 x y)) := fun e1 e2 => by
    subst hT2 hT1
    rw [HS1.out e1, HS2.out e2]
    show _ = tQ x ++ ([32, 45, 32] ++ bkT (isS y) (tQ y))
    simp only [List.append_assoc]
  have HOK : Hid (r = (b1 && b2 && decide (chnN x + 1 ≤ 64))) := by
    have e1 := HB1.out
    have e2 := HB2.out
    rw [HM.out] at e1 e2
    rw [HM1.out] at e2
    rw [Hid, ← HR.out, okT_sum (by decide), Nat.add_sub_cancel, e1, e2]
  have hfl : S2.length ≤ 200000000 * (1 + (sizQ x + sizQ y)) := by omega
  have HZ : Hid (sizQ x + sizQ y ≤ 1073741824) := by rw [Hid]; omega
  clear hT1 hT2
  cases b1 with
  | false =>
    obtain rfl : r = false := by rw [HOK.out]; simp
    go_wp2
    go_ret2
    exact ⟨⟨S2, rfl, fun h => (by cases h), by omega⟩, HW2.out⟩
  | true =>
  cases b2 with
  | false =>
    obtain rfl : r = false := by rw [HOK.out]; simp
    go_wp2
    go_ret2
    exact ⟨⟨S2, rfl, fun h => (by cases h), by omega⟩, HW2.out⟩
  | true =>
  have hQ : QI w2 B (.node 5 [] 0 0 [] 2 x y) [.int .i64 5, .string (tx []), .int .i64 0, .int .i64 0, .slice wa 0 wc, .slice (some ⟨bb, ob, none⟩) 2 kc] := QI.keep (HW2.out.mono hB) _ HQ0.out
  have hcn : chnN (.node 5 [] 0 0 [] 2 x y) = chnN x + 1 := by rw [chnN, if_pos (by decide)]
  have hcs := chn_siz x
  have kc2 := chain_any (.node 5 [] 0 0 [] 2 x y) w2 B _ (Nat.le_trans hB HW2.out.size) hQ HSN.out (by have := HZ.out; omega)
  rw [hcn] at kc2
  obtain ⟨M, hM⟩ : ∃ M, chnN x + 1 = M := ⟨_, rfl⟩
  rw [hM] at kc2
  have HMM : Hid (chnN x + 1 = M) := hM
  clear hQ hcn hcs hM
  go_wp2_with fail
  refine kc2.mono ?_
  rintro e w3 ⟨rfl, hbw3⟩
  have HW3 : Hid (Below w.heap.size w w3) := bt HW2.out hbw3
  clear kc2 hbw3
  by_cases hM64 : M ≤ 64
  · have d1 : (M : Int) ≤ 64 := by omega
    have d2 : decide ((M : Int) ≤ 64) = true := by simpa using d1
    have d3 : decide (M ≤ 64) = true := by simpa using hM64
    obtain rfl : r = true := by rw [HOK.out, HMM.out]; simpa using hM64
    go_wp2
    go_ret2
    exact ⟨⟨S2, rfl, fun _ => HFI.out (by first | rfl | trivial) (by first | rfl | trivial), by omega⟩, HW3.out⟩
  · have d1 : ¬ (M : Int) ≤ 64 := by omega
    have d2 : decide ((M : Int) ≤ 64) = false := by simpa using d1
    have d3 : decide (M ≤ 64) = false := by simpa using hM64
    obtain rfl : r = false := by rw [HOK.out, HMM.out]; simpa using hM64
    go_wp2
    go_ret2
    exact ⟨⟨S2, rfl, fun h => (by cases h), by omega⟩, HW3.out⟩
end Go.Proofs.YtidfkencjdjkbaaGreatDoor

/-
  The document's own answer, chapter 15, Print: the text of a question, kind by kind.
-/
namespace Go.Proofs.YtidfkencjdjkbaaGreatDoor
open Go.RowKit Sp
open Go.Lib (decDigits itoa)

set_option maxHeartbeats 4000000 in
set_option maxRecDepth 100000 in
theorem txt6 (lo : Int) (hlo : -1048576 ≤ lo ∧ lo ≤ 1048576) (x : Qu) (hSx : Say x) (hTx : TX x) (w : World) (B : Nat) (cs : List Value) (lv : Int) (hB : B ≤ w.heap.size) (h : QI w B (.node 6 [] lo 0 [] 1 x .none) cs) (hz : sizQ (.node 6 [] lo 0 [] 1 x .none) ≤ 1073741824) (h1 : 1 ≤ lv) (h64 : lv ≤ 64) : Calls Tryz.prog 18 #[.agg cs.toArray, .int .i64 lv] w (TxA (okT (.node 6 [] lo 0 [] 1 x .none) (lvl lv)) (tQ (.node 6 [] lo 0 [] 1 x .none)) (200000000 * sizQ (.node 6 [] lo 0 [] 1 x .none)) w) := by
  obtain ⟨wv, ka, kc, rfl, hTI, hnk, -, -, -, -, -, -, -, hkids⟩ := h
  have HTI : Hid (TI w B [] wv) := hTI
  obtain ⟨wa, wc, rfl, hwc, -, -, -⟩ := hTI
  have HL0 : Hid (([] : List Tst).length = 0) := rfl
  rw [HL0.out]
  obtain ⟨m, hm⟩ : ∃ m : Nat, lvl lv = m + 1 := ⟨(64 - lv).toNat, by unfold lvl; omega⟩
  have HM : Hid (lvl lv = m + 1) := hm
  have HM1 : Hid (lvl (lv + 1) = m) := by unfold lvl at *; rw [Hid]; omega
  have hgl : ¬ (64 : Int) < lv := by omega
  have hgd : decide ((64 : Int) < lv) = false := by simpa using hgl
  obtain ⟨W0, hW0⟩ : ∃ W0, w.alloc (.cells #[.int .i64 6, .string (tx []), .int .i64 lo, .int .i64 0, .slice wa 0 wc, .slice ka 1 kc] 25) = W0 := ⟨_, rfl⟩
  have HB0 : Hid (Below w.heap.size w W0) := hW0 ▸ ba _ _
  have HX0 : Hid (Bx W0 w.heap.size [.int .i64 6, .string (tx []), .int .i64 lo, .int .i64 0, .slice wa 0 wc, .slice ka 1 kc]) := hW0 ▸ Bx.new w [.int .i64 6, .string (tx []), .int .i64 lo, .int .i64 0, .slice wa 0 wc, .slice ka 1 kc] 25 rfl
  have z0 := (HX0.out 0 _ rfl).c
  have z1 := (HX0.out 1 _ rfl).c
  have z2 := (HX0.out 2 _ rfl).c
  have z3 := (HX0.out 3 _ rfl).c
  have z4 := (HX0.out 4 _ rfl).c
  have z5 := (HX0.out 5 _ rfl).c
  rw [hm]
  obtain ⟨r, hr⟩ : ∃ r, okT (.node 6 [] lo 0 [] 1 x .none) (m + 1) = r := ⟨_, rfl⟩
  have HR : Hid (okT (.node 6 [] lo 0 [] 1 x .none) (m + 1) = r) := hr
  rw [hr]
  clear hr
  obtain ⟨bb, ob, rfl, hbb, ⟨xs, hxs, hxc⟩, hyy⟩ := hkids (by omega) (by omega)
  have hbw : bb < w.heap.size := by omega
  obtain ⟨kdx, cx, lox, hix, wax, wnx, wcx, kax, knx, kcx, rfl⟩ := hxs.six
  have HXC : Hid (∀ (j : Nat) u, [.int .i64 kdx, .string (tx cx), .int .i64 lox, .int .i64 hix, .slice wax wnx wcx, .slice kax knx kcx][j]? = some u → w.cell? ⟨bb, ob + j, none⟩ = some u) := hxc
  have HXS : Hid (QI w B x [.int .i64 kdx, .string (tx cx), .int .i64 lox, .int .i64 hix, .slice wax wnx wcx, .slice kax knx kcx]) := hxs
  clear hxc hxs
  have hsz : sizQ (.node 6 [] lo 0 [] 1 x .none) = 1 + sizQ x := by simp [sizQ]
  rw [hsz] at hz ⊢
  clear hkids hyy hm
  obtain ⟨l1, hl1⟩ : ∃ l1, lv + 1 = l1 := ⟨_, rfl⟩
  have hw1 : IntKind.i64.wrap (lv + 1) = l1 := by rw [IntKind.wrap_i64]; omega
  have kx := near41 hTx W0 B _ l1 (Nat.le_trans hB HB0.out.size) (QI.keep (HB0.out.mono hB) _ HXS.out) hSx (by omega) (by omega) (by omega)
  have HL1 : Hid (lv + 1 = l1) := hl1
  clear hl1
  have xp0 : W0.cell? ⟨bb, ob, none⟩ = some (.int .i64 kdx) := (HB0.out.cell (p := ⟨bb, ob, none⟩) hbw).trans (HXC.out 0 _ rfl)
  have xp1 : W0.cell? ⟨bb, ob + 1, none⟩ = some (.string (tx cx)) := (HB0.out.cell (p := ⟨bb, ob + 1, none⟩) hbw).trans (HXC.out 1 _ rfl)
  have xp2 : W0.cell? ⟨bb, ob + 2, none⟩ = some (.int .i64 lox) := (HB0.out.cell (p := ⟨bb, ob + 2, none⟩) hbw).trans (HXC.out 2 _ rfl)
  have xp3 : W0.cell? ⟨bb, ob + 3, none⟩ = some (.int .i64 hix) := (HB0.out.cell (p := ⟨bb, ob + 3, none⟩) hbw).trans (HXC.out 3 _ rfl)
  have xp4 : W0.cell? ⟨bb, ob + 4, none⟩ = some (.slice wax wnx wcx) := (HB0.out.cell (p := ⟨bb, ob + 4, none⟩) hbw).trans (HXC.out 4 _ rfl)
  have xp5 : W0.cell? ⟨bb, ob + 5, none⟩ = some (.slice kax knx kcx) := (HB0.out.cell (p := ⟨bb, ob + 5, none⟩) hbw).trans (HXC.out 5 _ rfl)
  obtain ⟨b1, hb1⟩ : ∃ b, (if isS x = true then okT x (lvl (l1 + 1)) else okT x (lvl l1)) = b := ⟨_, rfl⟩
  rw [hb1] at kx
  have HB1 : Hid ((if isS x = true then okT x (lvl (l1 + 1)) else okT x (lvl l1)) = b1) := hb1
  clear hb1
  go_enter Tryz.func18, Tryz.ntmps18
  go_wp2_with fail
  clear hW0
  refine kx.mono ?_
  rintro e w1 ⟨⟨s1, rfl, hs1, hl1⟩, hbw1⟩
  have HS1 : Hid _ := hs1
  have HW1 : Hid (Below w.heap.size w w1) := bt HB0.out hbw1
  have HX1 : Hid (Bx w1 w.heap.size [.int .i64 6, .string (tx []), .int .i64 lo, .int .i64 0, .slice wa 0 wc, .slice (some ⟨bb, ob, none⟩) 1 kc]) := HX0.out.at hbw1
  clear kx hs1 hbw1 z0 z1 z2 z3 z4 z5 xp0 xp1 xp2 xp3 xp4 xp5
  have z0 := (HX1.out 0 _ rfl).c
  have z1 := (HX1.out 1 _ rfl).c
  have z2 := (HX1.out 2 _ rfl).c
  have z3 := (HX1.out 3 _ rfl).c
  have z4 := (HX1.out 4 _ rfl).c
  have z5 := (HX1.out 5 _ rfl).c
  have kl := rnum_any lo hlo.1 hlo.2 w1
  have hLl := itoaR_len hlo.1 hlo.2
  obtain ⟨L, hL⟩ : ∃ L, itoa lo = L := ⟨_, rfl⟩
  rw [hL] at kl hLl
  have HLL : Hid (itoa lo = L) := hL
  clear hL
  have a1 := tx_addR (L) (([32, 42, 32] : By))
  have l1 : ¬ (9223372036854775807 < (L : By).length + (([32, 42, 32] : By) : By).length) := by first | omega | (simp only [List.length_cons, List.length_nil]; omega)
  obtain ⟨S1, hT1⟩ : ∃ S, (L : By) ++ (([32, 42, 32] : By)) = S := ⟨_, rfl⟩
  rw [hT1] at a1
  have hq1 : S1.length = (L : By).length + (([32, 42, 32] : By) : By).length := by rw [← hT1, List.length_append]
  try simp only [List.length_cons, List.length_nil] at hq1
  have a2 := tx_addR (S1) (s1)
  have l2 : ¬ (9223372036854775807 < (S1 : By).length + (s1 : By).length) := by first | omega | (simp only [List.length_cons, List.length_nil]; omega)
  obtain ⟨S2, hT2⟩ : ∃ S, (S1 : By) ++ (s1) = S := ⟨_, rfl⟩
  rw [hT2] at a2
  have hq2 : S2.length = (S1 : By).length + (s1 : By).length := by rw [← hT2, List.length_append]
  try simp only [List.length_cons, List.length_nil] at hq2
  have HFI : Hid (b1 = true → S2 = tQ (.node 6 [] lo 0 [] 1 x .none)) := fun e1 => by
    subst hT2 hT1
    rw [HS1.out e1, ← HLL.out]
    show _ = itoa lo ++ ([32, 42, 32] ++ bkT (isS x) (tQ x))
    simp only [List.append_assoc]
  have HOK : Hid (r = (b1 && decide (1 < m + 1))) := by
    have e1 := HB1.out
    have e3 : lvl (lv + 1 + 1) = m - 1 := by have := HM1.out; unfold lvl at *; omega
    rw [← HL1.out, HM1.out, e3] at e1
    rw [Hid, ← HR.out, okT_tms, e1]
  have hfl : S2.length ≤ 200000000 * (1 + sizQ x) := by omega
  clear hT1 hT2
  go_wp2_with fail
  refine kl.mono ?_
  rintro e w2 ⟨rfl, hbw2⟩
  have HW2 : Hid (Below w.heap.size w w2) := bt HW1.out hbw2
  clear kl hbw2
  cases b1 with
  | false =>
    obtain rfl : r = false := by rw [HOK.out]; simp
    go_wp2
    go_ret2
    exact ⟨⟨S2, rfl, fun h => (by cases h), by omega⟩, HW2.out⟩
  | true =>
  by_cases hl4 : lv < 64
  · have d2 : decide (lv < 64) = true := by simpa using hl4
    obtain rfl : r = true := by rw [HOK.out]; have := HM.out; unfold lvl at this; simp; omega
    go_wp2
    go_ret2
    exact ⟨⟨S2, rfl, fun _ => HFI.out (by first | rfl | trivial), by omega⟩, HW2.out⟩
  · have d2 : decide (lv < 64) = false := by simpa using hl4
    obtain rfl : r = false := by rw [HOK.out]; have := HM.out; unfold lvl at this; simp; omega
    go_wp2
    go_ret2
    exact ⟨⟨S2, rfl, fun h => (by cases h), by omega⟩, HW2.out⟩
end Go.Proofs.YtidfkencjdjkbaaGreatDoor

/-
  The document's own answer, chapter 15, Print: the text of a question, kind by kind.
-/
namespace Go.Proofs.YtidfkencjdjkbaaGreatDoor
open Go.RowKit Sp
open Go.Lib (decDigits itoa)

set_option maxHeartbeats 4000000 in
set_option maxRecDepth 100000 in
theorem txt7 (x : Qu) (hSx : Say x) (hTx : TX x) (y : Qu) (hSy : Say y) (hTy : TX y) (w : World) (B : Nat) (cs : List Value) (lv : Int) (hB : B ≤ w.heap.size) (h : QI w B (.node 7 [] 0 0 [] 2 x y) cs) (hz : sizQ (.node 7 [] 0 0 [] 2 x y) ≤ 1073741824) (h1 : 1 ≤ lv) (h64 : lv ≤ 64) : Calls Tryz.prog 18 #[.agg cs.toArray, .int .i64 lv] w (TxA (okT (.node 7 [] 0 0 [] 2 x y) (lvl lv)) (tQ (.node 7 [] 0 0 [] 2 x y)) (200000000 * sizQ (.node 7 [] 0 0 [] 2 x y)) w) := by
  obtain ⟨wv, ka, kc, rfl, hTI, hnk, -, -, -, -, -, -, -, hkids⟩ := h
  have HTI : Hid (TI w B [] wv) := hTI
  obtain ⟨wa, wc, rfl, hwc, -, -, -⟩ := hTI
  have HL0 : Hid (([] : List Tst).length = 0) := rfl
  rw [HL0.out]
  obtain ⟨m, hm⟩ : ∃ m : Nat, lvl lv = m + 1 := ⟨(64 - lv).toNat, by unfold lvl; omega⟩
  have HM : Hid (lvl lv = m + 1) := hm
  have HM1 : Hid (lvl (lv + 1) = m) := by unfold lvl at *; rw [Hid]; omega
  have hgl : ¬ (64 : Int) < lv := by omega
  have hgd : decide ((64 : Int) < lv) = false := by simpa using hgl
  obtain ⟨W0, hW0⟩ : ∃ W0, w.alloc (.cells #[.int .i64 7, .string (tx []), .int .i64 0, .int .i64 0, .slice wa 0 wc, .slice ka 2 kc] 25) = W0 := ⟨_, rfl⟩
  have HB0 : Hid (Below w.heap.size w W0) := hW0 ▸ ba _ _
  have HX0 : Hid (Bx W0 w.heap.size [.int .i64 7, .string (tx []), .int .i64 0, .int .i64 0, .slice wa 0 wc, .slice ka 2 kc]) := hW0 ▸ Bx.new w [.int .i64 7, .string (tx []), .int .i64 0, .int .i64 0, .slice wa 0 wc, .slice ka 2 kc] 25 rfl
  have z0 := (HX0.out 0 _ rfl).c
  have z1 := (HX0.out 1 _ rfl).c
  have z2 := (HX0.out 2 _ rfl).c
  have z3 := (HX0.out 3 _ rfl).c
  have z4 := (HX0.out 4 _ rfl).c
  have z5 := (HX0.out 5 _ rfl).c
  rw [hm]
  obtain ⟨r, hr⟩ : ∃ r, okT (.node 7 [] 0 0 [] 2 x y) (m + 1) = r := ⟨_, rfl⟩
  have HR : Hid (okT (.node 7 [] 0 0 [] 2 x y) (m + 1) = r) := hr
  rw [hr]
  clear hr
  obtain ⟨bb, ob, rfl, hbb, ⟨xs, hxs, hxc⟩, hyy⟩ := hkids (by omega) (by omega)
  have hbw : bb < w.heap.size := by omega
  obtain ⟨kdx, cx, lox, hix, wax, wnx, wcx, kax, knx, kcx, rfl⟩ := hxs.six
  have HXC : Hid (∀ (j : Nat) u, [.int .i64 kdx, .string (tx cx), .int .i64 lox, .int .i64 hix, .slice wax wnx wcx, .slice kax knx kcx][j]? = some u → w.cell? ⟨bb, ob + j, none⟩ = some u) := hxc
  have HXS : Hid (QI w B x [.int .i64 kdx, .string (tx cx), .int .i64 lox, .int .i64 hix, .slice wax wnx wcx, .slice kax knx kcx]) := hxs
  clear hxc hxs
  obtain ⟨ys, hys, hyc⟩ := hyy (by omega)
  obtain ⟨kdy, cy, loy, hiy, way, wny, wcy, kay, kny, kcy, rfl⟩ := hys.six
  have HYC : Hid (∀ (j : Nat) u, [.int .i64 kdy, .string (tx cy), .int .i64 loy, .int .i64 hiy, .slice way wny wcy, .slice kay kny kcy][j]? = some u → w.cell? ⟨bb, ob + 6 + j, none⟩ = some u) := hyc
  have HYS : Hid (QI w B y [.int .i64 kdy, .string (tx cy), .int .i64 loy, .int .i64 hiy, .slice way wny wcy, .slice kay kny kcy]) := hys
  clear hyc hys
  have hsz : sizQ (.node 7 [] 0 0 [] 2 x y) = 1 + sizQ x + sizQ y := by simp [sizQ]; try omega
  rw [hsz] at hz ⊢
  clear hkids hyy hm
  obtain ⟨l1, hl1⟩ : ∃ l1, lv + 1 = l1 := ⟨_, rfl⟩
  have hw1 : IntKind.i64.wrap (lv + 1) = l1 := by rw [IntKind.wrap_i64]; omega
  have kx := hTx W0 B _ l1 (Nat.le_trans hB HB0.out.size) (QI.keep (HB0.out.mono hB) _ HXS.out) hSx (by omega) (by omega) (by omega)
  have HL1 : Hid (lv + 1 = l1) := hl1
  clear hl1
  have xp0 : W0.cell? ⟨bb, ob, none⟩ = some (.int .i64 kdx) := (HB0.out.cell (p := ⟨bb, ob, none⟩) hbw).trans (HXC.out 0 _ rfl)
  have xp1 : W0.cell? ⟨bb, ob + 1, none⟩ = some (.string (tx cx)) := (HB0.out.cell (p := ⟨bb, ob + 1, none⟩) hbw).trans (HXC.out 1 _ rfl)
  have xp2 : W0.cell? ⟨bb, ob + 2, none⟩ = some (.int .i64 lox) := (HB0.out.cell (p := ⟨bb, ob + 2, none⟩) hbw).trans (HXC.out 2 _ rfl)
  have xp3 : W0.cell? ⟨bb, ob + 3, none⟩ = some (.int .i64 hix) := (HB0.out.cell (p := ⟨bb, ob + 3, none⟩) hbw).trans (HXC.out 3 _ rfl)
  have xp4 : W0.cell? ⟨bb, ob + 4, none⟩ = some (.slice wax wnx wcx) := (HB0.out.cell (p := ⟨bb, ob + 4, none⟩) hbw).trans (HXC.out 4 _ rfl)
  have xp5 : W0.cell? ⟨bb, ob + 5, none⟩ = some (.slice kax knx kcx) := (HB0.out.cell (p := ⟨bb, ob + 5, none⟩) hbw).trans (HXC.out 5 _ rfl)
  obtain ⟨b1, hb1⟩ : ∃ b, okT x (lvl l1) = b := ⟨_, rfl⟩
  rw [hb1] at kx
  have HB1 : Hid (okT x (lvl l1) = b1) := hb1
  clear hb1
  go_enter Tryz.func18, Tryz.ntmps18
  go_wp2_with fail
  clear hW0
  refine kx.mono ?_
  rintro e w1 ⟨⟨s1, rfl, hs1, hl1⟩, hbw1⟩
  have HS1 : Hid _ := hs1
  have HW1 : Hid (Below w.heap.size w w1) := bt HB0.out hbw1
  have HX1 : Hid (Bx w1 w.heap.size [.int .i64 7, .string (tx []), .int .i64 0, .int .i64 0, .slice wa 0 wc, .slice (some ⟨bb, ob, none⟩) 2 kc]) := HX0.out.at hbw1
  clear kx hs1 hbw1 z0 z1 z2 z3 z4 z5 xp0 xp1 xp2 xp3 xp4 xp5
  have z0 := (HX1.out 0 _ rfl).c
  have z1 := (HX1.out 1 _ rfl).c
  have z2 := (HX1.out 2 _ rfl).c
  have z3 := (HX1.out 3 _ rfl).c
  have z4 := (HX1.out 4 _ rfl).c
  have z5 := (HX1.out 5 _ rfl).c
  have ky := hTy w1 B _ l1 (Nat.le_trans hB HW1.out.size) (QI.keep (HW1.out.mono hB) _ HYS.out) hSy (by omega) (by have := HL1.out; omega) (by have := HL1.out; omega)
  obtain ⟨b2, hb2⟩ : ∃ b, okT y (lvl l1) = b := ⟨_, rfl⟩
  rw [hb2] at ky
  have HB2 : Hid (okT y (lvl l1) = b2) := hb2
  clear hb2
  have yp0 : w1.cell? ⟨bb, ob + 6, none⟩ = some (.int .i64 kdy) := (HW1.out.cell (p := ⟨bb, ob + 6, none⟩) hbw).trans (HYC.out 0 _ rfl)
  have yp1 : w1.cell? ⟨bb, ob + 6 + 1, none⟩ = some (.string (tx cy)) := (HW1.out.cell (p := ⟨bb, ob + 6 + 1, none⟩) hbw).trans (HYC.out 1 _ rfl)
  have yp2 : w1.cell? ⟨bb, ob + 6 + 2, none⟩ = some (.int .i64 loy) := (HW1.out.cell (p := ⟨bb, ob + 6 + 2, none⟩) hbw).trans (HYC.out 2 _ rfl)
  have yp3 : w1.cell? ⟨bb, ob + 6 + 3, none⟩ = some (.int .i64 hiy) := (HW1.out.cell (p := ⟨bb, ob + 6 + 3, none⟩) hbw).trans (HYC.out 3 _ rfl)
  have yp4 : w1.cell? ⟨bb, ob + 6 + 4, none⟩ = some (.slice way wny wcy) := (HW1.out.cell (p := ⟨bb, ob + 6 + 4, none⟩) hbw).trans (HYC.out 4 _ rfl)
  have yp5 : w1.cell? ⟨bb, ob + 6 + 5, none⟩ = some (.slice kay kny kcy) := (HW1.out.cell (p := ⟨bb, ob + 6 + 5, none⟩) hbw).trans (HYC.out 5 _ rfl)
  go_wp2_with fail
  refine ky.mono ?_
  rintro e w2 ⟨⟨s2, rfl, hs2, hl2⟩, hbw2⟩
  have HS2 : Hid _ := hs2
  have HW2 : Hid (Below w.heap.size w w2) := bt HW1.out hbw2
  have HX2 : Hid (Bx w2 w.heap.size [.int .i64 7, .string (tx []), .int .i64 0, .int .i64 0, .slice wa 0 wc, .slice (some ⟨bb, ob, none⟩) 2 kc]) := HX1.out.at hbw2
  clear ky hs2 hbw2 z0 z1 z2 z3 z4 z5 yp0 yp1 yp2 yp3 yp4 yp5
  have z0 := (HX2.out 0 _ rfl).c
  have z1 := (HX2.out 1 _ rfl).c
  have z2 := (HX2.out 2 _ rfl).c
  have z3 := (HX2.out 3 _ rfl).c
  have z4 := (HX2.out 4 _ rfl).c
  have z5 := (HX2.out 5 _ rfl).c
  have a1 := tx_addR (([106, 111, 105, 110, 32, 40] : By)) (s1)
  have l1 : ¬ (9223372036854775807 < (([106, 111, 105, 110, 32, 40] : By) : By).length + (s1 : By).length) := by first | omega | (simp only [List.length_cons, List.length_nil]; omega)
  obtain ⟨S1, hT1⟩ : ∃ S, (([106, 111, 105, 110, 32, 40] : By) : By) ++ (s1) = S := ⟨_, rfl⟩
  rw [hT1] at a1
  have hq1 : S1.length = (([106, 111, 105, 110, 32, 40] : By) : By).length + (s1 : By).length := by rw [← hT1, List.length_append]
  try simp only [List.length_cons, List.length_nil] at hq1
  have a2 := tx_addR (S1) (([44, 32] : By))
  have l2 : ¬ (9223372036854775807 < (S1 : By).length + (([44, 32] : By) : By).length) := by first | omega | (simp only [List.length_cons, List.length_nil]; omega)
  obtain ⟨S2, hT2⟩ : ∃ S, (S1 : By) ++ (([44, 32] : By)) = S := ⟨_, rfl⟩
  rw [hT2] at a2
  have hq2 : S2.length = (S1 : By).length + (([44, 32] : By) : By).length := by rw [← hT2, List.length_append]
  try simp only [List.length_cons, List.length_nil] at hq2
  have a3 := tx_addR (S2) (s2)
  have l3 : ¬ (9223372036854775807 < (S2 : By).length + (s2 : By).length) := by first | omega | (simp only [List.length_cons, List.length_nil]; omega)
  obtain ⟨S3, hT3⟩ : ∃ S, (S2 : By) ++ (s2) = S := ⟨_, rfl⟩
  rw [hT3] at a3
  have hq3 : S3.length = (S2 : By).length + (s2 : By).length := by rw [← hT3, List.length_append]
  try simp only [List.length_cons, List.length_nil] at hq3
  have a4 := tx_addR (S3) (sShut)
  have l4 : ¬ (9223372036854775807 < (S3 : By).length + (sShut : By).length) := by first | omega | (simp only [List.length_cons, List.length_nil]; omega)
  obtain ⟨S4, hT4⟩ : ∃ S, (S3 : By) ++ (sShut) = S := ⟨_, rfl⟩
  rw [hT4] at a4
  have hq4 : S4.length = (S3 : By).length + (sShut : By).length := by rw [← hT4, List.length_append]
  try simp only [List.length_cons, List.length_nil] at hq4
  have HFI : Hid (b1 = true → b2 = true → S4 = tQ (.node 7 [] 0 0 [] 2 x y)) := fun e1 e2 => by
    subst hT4 hT3 hT2 hT1
    rw [HS1.out e1, HS2.out e2]
    show _ = wJoin ++ ([32] ++ (sOpen ++ (tQ x ++ ([44, 32] ++ (tQ y ++ sShut)))))
    simp only [List.append_assoc]
    rfl
  have HOK : Hid (r = (b1 && b2)) := by
    have e1 := HB1.out
    have e2 := HB2.out
    rw [← HL1.out, HM1.out] at e1 e2
    rw [Hid, ← HR.out, okT_join, e1, e2]
  have hfl : S4.length ≤ 200000000 * (1 + (sizQ x + sizQ y)) := by omega
  clear hT1 hT2 hT3 hT4
  cases b1 with
  | false =>
    obtain rfl : r = false := by rw [HOK.out]; simp
    go_wp2
    go_ret2
    exact ⟨⟨S4, rfl, fun h => (by cases h), by omega⟩, HW2.out⟩
  | true =>
    obtain rfl : r = b2 := by rw [HOK.out]; simp
    go_wp2
    go_ret2
    exact ⟨⟨S4, rfl, fun h => HFI.out (by first | rfl | trivial) h, by omega⟩, HW2.out⟩
end Go.Proofs.YtidfkencjdjkbaaGreatDoor
