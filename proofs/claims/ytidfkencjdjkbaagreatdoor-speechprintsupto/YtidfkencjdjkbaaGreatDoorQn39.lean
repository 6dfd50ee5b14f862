import Derived.Test.YtidfkencjdjkbaaGreatDoorQn38
/-
  The document's own answer, chapter 15, Print: the text of a question, kind by kind.
-/
namespace Go.Proofs.YtidfkencjdjkbaaGreatDoor
open Go.RowKit Sp
open Go.Lib (decDigits itoa)

set_option maxHeartbeats 4000000 in
set_option maxRecDepth 100000 in
theorem txt1 (wh : List Tst) (hwh : WOk wh) (w : World) (B : Nat) (cs : List Value) (lv : Int) (hB : B ≤ w.heap.size) (h : QI w B (.node 1 [] 0 0 wh 0 .none .none) cs) (_ : sizQ (.node 1 [] 0 0 wh 0 .none .none) ≤ 1073741824) (h1 : 1 ≤ lv) (h64 : lv ≤ 64) : Calls Tryz.prog 18 #[.agg cs.toArray, .int .i64 lv] w (TxA (okT (.node 1 [] 0 0 wh 0 .none .none) (lvl lv)) (tQ (.node 1 [] 0 0 wh 0 .none .none)) (200000000 * sizQ (.node 1 [] 0 0 wh 0 .none .none)) w) := by
  obtain ⟨wv, ka, kc, rfl, hTI, hnk, -, -, -, -, -, -, -, hkids⟩ := h
  have HTI : Hid (TI w B wh wv) := hTI
  obtain ⟨wa, wc, rfl, hwc, -, -, -⟩ := hTI
  obtain ⟨wl, hwl⟩ : ∃ wl, wh.length = wl := ⟨_, rfl⟩
  have HWL : Hid (wh.length = wl) := hwl
  have hUl := teT_len hwh.2 hwh.1
  have kT : ∀ W : World, Below w.heap.size w W → Calls Tryz.prog 39 #[.slice wa wh.length wc] W fun e w' => e = .returned (.string (tx (teT wh))) ∧ Below W.heap.size W w' := fun W hW => rtests_any wh W B wa wc (HTI.out.keep (hW.mono hB)) (Nat.le_trans hB hW.size) hwh
  rw [hwl] at kT hwc ⊢
  clear hwl
  obtain ⟨m, hm⟩ : ∃ m : Nat, lvl lv = m + 1 := ⟨(64 - lv).toNat, by unfold lvl; omega⟩
  have HM : Hid (lvl lv = m + 1) := hm
  have HM1 : Hid (lvl (lv + 1) = m) := by unfold lvl at *; rw [Hid]; omega
  have hgl : ¬ (64 : Int) < lv := by omega
  have hgd : decide ((64 : Int) < lv) = false := by simpa using hgl
  obtain ⟨W0, hW0⟩ : ∃ W0, w.alloc (.cells #[.int .i64 1, .string (tx []), .int .i64 0, .int .i64 0, .slice wa wl wc, .slice ka 0 kc] 25) = W0 := ⟨_, rfl⟩
  have HB0 : Hid (Below w.heap.size w W0) := hW0 ▸ ba _ _
  have HX0 : Hid (Bx W0 w.heap.size [.int .i64 1, .string (tx []), .int .i64 0, .int .i64 0, .slice wa wl wc, .slice ka 0 kc]) := hW0 ▸ Bx.new w [.int .i64 1, .string (tx []), .int .i64 0, .int .i64 0, .slice wa wl wc, .slice ka 0 kc] 25 rfl
  have z0 := (HX0.out 0 _ rfl).c
  have z1 := (HX0.out 1 _ rfl).c
  have z2 := (HX0.out 2 _ rfl).c
  have z3 := (HX0.out 3 _ rfl).c
  have z4 := (HX0.out 4 _ rfl).c
  have z5 := (HX0.out 5 _ rfl).c
  rw [hm]
  have hsz : sizQ (.node 1 [] 0 0 wh 0 .none .none) = 1 := by simp [sizQ]
  rw [hsz]
  clear hkids hm hsz
  rw [okT_leaf (by decide)]
  have k := kT W0 HB0.out
  have HTQ : Hid (tQ (.node 1 [] 0 0 wh 0 .none .none) = wCount ++ teT wh) := rfl
  rw [HTQ.out]
  generalize teT wh = U at *
  have a1 := tx_addR (wCount) (U)
  have l1 : ¬ (9223372036854775807 < (wCount : By).length + (U : By).length) := by first | omega | (simp only [List.length_cons, List.length_nil]; omega)
  obtain ⟨S1, hS1⟩ : ∃ S, (wCount : By) ++ (U) = S := ⟨_, rfl⟩
  rw [hS1] at a1
  have hl1 : S1.length = (wCount : By).length + (U : By).length := by rw [← hS1, List.length_append]
  try simp only [List.length_cons, List.length_nil] at hl1
  go_enter Tryz.func18, Tryz.ntmps18
  go_wp2_with fail
  clear hW0
  refine k.mono ?_
  rintro e w1 ⟨rfl, hb1⟩
  clear k z0 z1 z2 z3 z4 z5
  go_wp2
  go_ret2
  exact ⟨⟨S1, rfl, fun _ => hS1.symm, by omega⟩, bt HB0.out hb1⟩
end Go.Proofs.YtidfkencjdjkbaaGreatDoor

/-
  The document's own answer, chapter 15, Print: the text of a question, kind by kind.
-/
namespace Go.Proofs.YtidfkencjdjkbaaGreatDoor
open Go.RowKit Sp
open Go.Lib (decDigits itoa)

set_option maxHeartbeats 4000000 in
set_option maxRecDepth 100000 in
theorem txt2 (c : By) (hc : nmd c = true) (lo : Int) (hlo : -1048576 ≤ lo ∧ lo ≤ 1048576) (hi : Int) (hhi : -1048576 ≤ hi ∧ hi ≤ 1048576) (wh : List Tst) (hwh : WOk wh) (w : World) (B : Nat) (cs : List Value) (lv : Int) (hB : B ≤ w.heap.size) (h : QI w B (.node 2 c lo hi wh 0 .none .none) cs) (_ : sizQ (.node 2 c lo hi wh 0 .none .none) ≤ 1073741824) (h1 : 1 ≤ lv) (h64 : lv ≤ 64) : Calls Tryz.prog 18 #[.agg cs.toArray, .int .i64 lv] w (TxA (okT (.node 2 c lo hi wh 0 .none .none) (lvl lv)) (tQ (.node 2 c lo hi wh 0 .none .none)) (200000000 * sizQ (.node 2 c lo hi wh 0 .none .none)) w) := by
  obtain ⟨wv, ka, kc, rfl, hTI, hnk, -, -, -, -, -, -, -, hkids⟩ := h
  have HTI : Hid (TI w B wh wv) := hTI
  obtain ⟨wa, wc, rfl, hwc, -, -, -⟩ := hTI
  obtain ⟨wl, hwl⟩ : ∃ wl, wh.length = wl := ⟨_, rfl⟩
  have HWL : Hid (wh.length = wl) := hwl
  have hUl := teT_len hwh.2 hwh.1
  have kT : ∀ W : World, Below w.heap.size w W → Calls Tryz.prog 39 #[.slice wa wh.length wc] W fun e w' => e = .returned (.string (tx (teT wh))) ∧ Below W.heap.size W w' := fun W hW => rtests_any wh W B wa wc (HTI.out.keep (hW.mono hB)) (Nat.le_trans hB hW.size) hwh
  rw [hwl] at kT hwc ⊢
  clear hwl
  obtain ⟨m, hm⟩ : ∃ m : Nat, lvl lv = m + 1 := ⟨(64 - lv).toNat, by unfold lvl; omega⟩
  have HM : Hid (lvl lv = m + 1) := hm
  have HM1 : Hid (lvl (lv + 1) = m) := by unfold lvl at *; rw [Hid]; omega
  have hgl : ¬ (64 : Int) < lv := by omega
  have hgd : decide ((64 : Int) < lv) = false := by simpa using hgl
  obtain ⟨W0, hW0⟩ : ∃ W0, w.alloc (.cells #[.int .i64 2, .string (tx c), .int .i64 lo, .int .i64 hi, .slice wa wl wc, .slice ka 0 kc] 25) = W0 := ⟨_, rfl⟩
  have HB0 : Hid (Below w.heap.size w W0) := hW0 ▸ ba _ _
  have HX0 : Hid (Bx W0 w.heap.size [.int .i64 2, .string (tx c), .int .i64 lo, .int .i64 hi, .slice wa wl wc, .slice ka 0 kc]) := hW0 ▸ Bx.new w [.int .i64 2, .string (tx c), .int .i64 lo, .int .i64 hi, .slice wa wl wc, .slice ka 0 kc] 25 rfl
  have z0 := (HX0.out 0 _ rfl).c
  have z1 := (HX0.out 1 _ rfl).c
  have z2 := (HX0.out 2 _ rfl).c
  have z3 := (HX0.out 3 _ rfl).c
  have z4 := (HX0.out 4 _ rfl).c
  have z5 := (HX0.out 5 _ rfl).c
  rw [hm]
  have hsz : sizQ (.node 2 c lo hi wh 0 .none .none) = 1 := by simp [sizQ]
  rw [hsz]
  clear hkids hm hsz
  rw [okT_leaf (by decide)]
  have HTQ : Hid (tQ (.node 2 c lo hi wh 0 .none .none) = wSum ++ ([32] ++ (c ++ ([32, 105, 110, 32] ++ (itoa lo ++ (sDots ++ (itoa hi ++ teT wh))))))) := rfl
  rw [HTQ.out]
  have hcl := nmd_le hc
  have kL := fun W => rnum_any lo hlo.1 hlo.2 W
  have kH := fun W => rnum_any hi hhi.1 hhi.2 W
  have hLl := itoaR_len hlo.1 hlo.2
  have hHl := itoaR_len hhi.1 hhi.2
  generalize itoa lo = L at *
  generalize itoa hi = H at *
  generalize teT wh = U at *
  have a1 := tx_addR (([115, 117, 109, 32] : By)) (c)
  have l1 : ¬ (9223372036854775807 < (([115, 117, 109, 32] : By) : By).length + (c : By).length) := by first | omega | (simp only [List.length_cons, List.length_nil]; omega)
  obtain ⟨S1, hS1⟩ : ∃ S, (([115, 117, 109, 32] : By) : By) ++ (c) = S := ⟨_, rfl⟩
  rw [hS1] at a1
  have hl1 : S1.length = (([115, 117, 109, 32] : By) : By).length + (c : By).length := by rw [← hS1, List.length_append]
  try simp only [List.length_cons, List.length_nil] at hl1
  have a2 := tx_addR (S1) (([32, 105, 110, 32] : By))
  have l2 : ¬ (9223372036854775807 < (S1 : By).length + (([32, 105, 110, 32] : By) : By).length) := by first | omega | (simp only [List.length_cons, List.length_nil]; omega)
  obtain ⟨S2, hS2⟩ : ∃ S, (S1 : By) ++ (([32, 105, 110, 32] : By)) = S := ⟨_, rfl⟩
  rw [hS2] at a2
  have hl2 : S2.length = (S1 : By).length + (([32, 105, 110, 32] : By) : By).length := by rw [← hS2, List.length_append]
  try simp only [List.length_cons, List.length_nil] at hl2
  have a3 := tx_addR (S2) (L)
  have l3 : ¬ (9223372036854775807 < (S2 : By).length + (L : By).length) := by first | omega | (simp only [List.length_cons, List.length_nil]; omega)
  obtain ⟨S3, hS3⟩ : ∃ S, (S2 : By) ++ (L) = S := ⟨_, rfl⟩
  rw [hS3] at a3
  have hl3 : S3.length = (S2 : By).length + (L : By).length := by rw [← hS3, List.length_append]
  try simp only [List.length_cons, List.length_nil] at hl3
  have a4 := tx_addR (S3) (sDots)
  have l4 : ¬ (9223372036854775807 < (S3 : By).length + (sDots : By).length) := by first | omega | (simp only [List.length_cons, List.length_nil]; omega)
  obtain ⟨S4, hS4⟩ : ∃ S, (S3 : By) ++ (sDots) = S := ⟨_, rfl⟩
  rw [hS4] at a4
  have hl4 : S4.length = (S3 : By).length + (sDots : By).length := by rw [← hS4, List.length_append]
  try simp only [List.length_cons, List.length_nil] at hl4
  have a5 := tx_addR (S4) (H)
  have l5 : ¬ (9223372036854775807 < (S4 : By).length + (H : By).length) := by first | omega | (simp only [List.length_cons, List.length_nil]; omega)
  obtain ⟨S5, hS5⟩ : ∃ S, (S4 : By) ++ (H) = S := ⟨_, rfl⟩
  rw [hS5] at a5
  have hl5 : S5.length = (S4 : By).length + (H : By).length := by rw [← hS5, List.length_append]
  try simp only [List.length_cons, List.length_nil] at hl5
  have a6 := tx_addR (S5) (U)
  have l6 : ¬ (9223372036854775807 < (S5 : By).length + (U : By).length) := by first | omega | (simp only [List.length_cons, List.length_nil]; omega)
  obtain ⟨S6, hS6⟩ : ∃ S, (S5 : By) ++ (U) = S := ⟨_, rfl⟩
  rw [hS6] at a6
  have hl6 : S6.length = (S5 : By).length + (U : By).length := by rw [← hS6, List.length_append]
  try simp only [List.length_cons, List.length_nil] at hl6
  have HFI : Hid (S6 = wSum ++ ([32] ++ (c ++ ([32, 105, 110, 32] ++ (L ++ (sDots ++ (H ++ U))))))) := by rw [Hid]; subst hS1 hS2 hS3 hS4 hS5 hS6; simp only [List.append_assoc]; rfl
  have HBX : Hid (∀ X, Below W0.heap.size W0 X → X.cell? ⟨w.heap.size, 1, none⟩ = some (.string (tx c)) ∧ X.cell? ⟨w.heap.size, 2, none⟩ = some (.int .i64 lo) ∧ X.cell? ⟨w.heap.size, 3, none⟩ = some (.int .i64 hi) ∧ X.cell? ⟨w.heap.size, 4, none⟩ = some (.slice wa wl wc)) := fun X hX => ⟨((HX0.out.at hX) 1 _ rfl).c, ((HX0.out.at hX) 2 _ rfl).c, ((HX0.out.at hX) 3 _ rfl).c, ((HX0.out.at hX) 4 _ rfl).c⟩
  have hfl : S6.length ≤ 200000000 := by omega
  go_enter Tryz.func18, Tryz.ntmps18
  go_upto_region 9 with fail
  clear hW0
  refine wp_region_noPanic (xregion9 (fun _ _ _ _ _ h => h) _ _ _ _ _ _ _ _ _ _ _ _ _ _ _ _ _ _ _ _ _ _ _ _ _ _ _ _ _ _ _ _ _ _ _ _ _ _ _ _ _ _ _ _ _ _ _ _ _ _ _ _ _ _ _ _ _ _ _ _ _ _ _ _ _ _ _ _ _ _ _ _ _ _ _ _ _ _ _ _ _ _ _ _ _ _ _ _ _ _ _ _ _ _ _ _ _ _ _ _ _ _ _ _ _ _ _ _ _ _ _ _ _ _ _ _ _ _ _ _ _ _ _ _ _ _ _ _ _ _ _ _ _ _ _ _ _ _ _ _ _ _ _ _ _ _ _ _ _ _ _ _ _ _ _ _ _ _ _ _ _ _ _ _ _ _ _ _ _ _ _ _ _ _ _ _ _ _ _ _ _ _ _ _ _ _ _ _ _ _ _ _ _ _ _ _ _ _ _ _ _ _ _ _ _ _ _ _ _ _ _ _ _ _ _ _ _ _ _ _ _ _ _ _ _ _ _ _ _ _ _ _ _ _ _ _ _ _ _ _ _ _ _ _ _ W0 w.heap.size lo hi (tx c) (tx L) (tx H) (tx U) (tx S1) (tx S2) (tx S3) (tx S4) (tx S5) (tx S6) wa wl wc a1 a2 a3 a4 a5 a6 (by simp only [tx_sz]; simpa using l1) (by simp only [tx_sz]; simpa using l2) (by simp only [tx_sz]; exact l3) (by simp only [tx_sz]; simpa using l4) (by simp only [tx_sz]; exact l5) (by simp only [tx_sz]; exact l6) HBX.out (fun W _ => kL W) (fun W _ => kH W) (fun W hW => kT W (bt HB0.out hW)) ?_)
  intro X bX
  refine NoPanic.normal ?_
  have HBF : Hid (Below w.heap.size w X) := bt HB0.out bX
  clear bX HBX
  go_wp2
  go_ret2
  exact ⟨⟨S6, rfl, fun _ => HFI.out, by omega⟩, HBF.out⟩
end Go.Proofs.YtidfkencjdjkbaaGreatDoor

/-
  The document's own answer, chapter 15, Print: the text of a question, kind by kind.
-/
namespace Go.Proofs.YtidfkencjdjkbaaGreatDoor
open Go.RowKit Sp
open Go.Lib (decDigits itoa)

set_option maxHeartbeats 4000000 in
set_option maxRecDepth 100000 in
theorem txt3 (c : By) (hc : nmd c = true) (wh : List Tst) (hwh : WOk wh) (w : World) (B : Nat) (cs : List Value) (lv : Int) (hB : B ≤ w.heap.size) (h : QI w B (.node 3 c 0 0 wh 0 .none .none) cs) (_ : sizQ (.node 3 c 0 0 wh 0 .none .none) ≤ 1073741824) (h1 : 1 ≤ lv) (h64 : lv ≤ 64) : Calls Tryz.prog 18 #[.agg cs.toArray, .int .i64 lv] w (TxA (okT (.node 3 c 0 0 wh 0 .none .none) (lvl lv)) (tQ (.node 3 c 0 0 wh 0 .none .none)) (200000000 * sizQ (.node 3 c 0 0 wh 0 .none .none)) w) := by
  obtain ⟨wv, ka, kc, rfl, hTI, hnk, -, -, -, -, -, -, -, hkids⟩ := h
  have HTI : Hid (TI w B wh wv) := hTI
  obtain ⟨wa, wc, rfl, hwc, -, -, -⟩ := hTI
  obtain ⟨wl, hwl⟩ : ∃ wl, wh.length = wl := ⟨_, rfl⟩
  have HWL : Hid (wh.length = wl) := hwl
  have hUl := teT_len hwh.2 hwh.1
  have kT : ∀ W : World, Below w.heap.size w W → Calls Tryz.prog 39 #[.slice wa wh.length wc] W fun e w' => e = .returned (.string (tx (teT wh))) ∧ Below W.heap.size W w' := fun W hW => rtests_any wh W B wa wc (HTI.out.keep (hW.mono hB)) (Nat.le_trans hB hW.size) hwh
  rw [hwl] at kT hwc ⊢
  clear hwl
  obtain ⟨m, hm⟩ : ∃ m : Nat, lvl lv = m + 1 := ⟨(64 - lv).toNat, by unfold lvl; omega⟩
  have HM : Hid (lvl lv = m + 1) := hm
  have HM1 : Hid (lvl (lv + 1) = m) := by unfold lvl at *; rw [Hid]; omega
  have hgl : ¬ (64 : Int) < lv := by omega
  have hgd : decide ((64 : Int) < lv) = false := by simpa using hgl
  obtain ⟨W0, hW0⟩ : ∃ W0, w.alloc (.cells #[.int .i64 3, .string (tx c), .int .i64 0, .int .i64 0, .slice wa wl wc, .slice ka 0 kc] 25) = W0 := ⟨_, rfl⟩
  have HB0 : Hid (Below w.heap.size w W0) := hW0 ▸ ba _ _
  have HX0 : Hid (Bx W0 w.heap.size [.int .i64 3, .string (tx c), .int .i64 0, .int .i64 0, .slice wa wl wc, .slice ka 0 kc]) := hW0 ▸ Bx.new w [.int .i64 3, .string (tx c), .int .i64 0, .int .i64 0, .slice wa wl wc, .slice ka 0 kc] 25 rfl
  have z0 := (HX0.out 0 _ rfl).c
  have z1 := (HX0.out 1 _ rfl).c
  have z2 := (HX0.out 2 _ rfl).c
  have z3 := (HX0.out 3 _ rfl).c
  have z4 := (HX0.out 4 _ rfl).c
  have z5 := (HX0.out 5 _ rfl).c
  rw [hm]
  have hsz : sizQ (.node 3 c 0 0 wh 0 .none .none) = 1 := by simp [sizQ]
  rw [hsz]
  clear hkids hm hsz
  rw [okT_leaf (by decide)]
  have HTQ : Hid (tQ (.node 3 c 0 0 wh 0 .none .none) = wBins ++ ([32] ++ (c ++ teT wh))) := rfl
  rw [HTQ.out]
  have hcl := nmd_le hc
  generalize teT wh = U at *
  have a1 := tx_addR (([98, 105, 110, 115, 32] : By)) (c)
  have l1 : ¬ (9223372036854775807 < (([98, 105, 110, 115, 32] : By) : By).length + (c : By).length) := by first | omega | (simp only [List.length_cons, List.length_nil]; omega)
  obtain ⟨S1, hS1⟩ : ∃ S, (([98, 105, 110, 115, 32] : By) : By) ++ (c) = S := ⟨_, rfl⟩
  rw [hS1] at a1
  have hl1 : S1.length = (([98, 105, 110, 115, 32] : By) : By).length + (c : By).length := by rw [← hS1, List.length_append]
  try simp only [List.length_cons, List.length_nil] at hl1
  have a2 := tx_addR (S1) (U)
  have l2 : ¬ (9223372036854775807 < (S1 : By).length + (U : By).length) := by first | omega | (simp only [List.length_cons, List.length_nil]; omega)
  obtain ⟨S2, hS2⟩ : ∃ S, (S1 : By) ++ (U) = S := ⟨_, rfl⟩
  rw [hS2] at a2
  have hl2 : S2.length = (S1 : By).length + (U : By).length := by rw [← hS2, List.length_append]
  try simp only [List.length_cons, List.length_nil] at hl2
  have HFI : Hid (S2 = wBins ++ ([32] ++ (c ++ U))) := by rw [Hid]; subst hS1 hS2; simp only [List.append_assoc]; rfl
  have HBX : Hid (∀ X, Below W0.heap.size W0 X → X.cell? ⟨w.heap.size, 1, none⟩ = some (.string (tx c)) ∧ X.cell? ⟨w.heap.size, 4, none⟩ = some (.slice wa wl wc)) := fun X hX => ⟨((HX0.out.at hX) 1 _ rfl).c, ((HX0.out.at hX) 4 _ rfl).c⟩
  have hfl : S2.length ≤ 200000000 := by omega
  go_enter Tryz.func18, Tryz.ntmps18
  go_upto_region 7 with fail
  clear hW0
  refine wp_region_noPanic (xregion7 (fun _ _ _ _ _ h => h) _ _ _ _ _ _ _ _ _ _ _ _ _ _ _ _ _ _ _ _ _ _ _ _ _ _ _ _ _ _ _ _ _ _ _ _ _ _ _ _ _ _ _ _ _ _ _ _ _ _ _ _ _ _ _ _ _ _ _ _ _ _ _ _ _ _ _ _ _ _ _ _ _ _ _ _ _ _ _ _ _ _ _ _ _ _ _ _ _ _ _ _ _ _ _ _ _ _ _ _ _ _ _ _ _ _ _ _ _ _ _ _ _ _ _ _ _ _ _ _ _ _ _ _ _ _ _ _ _ _ _ _ _ _ _ _ _ _ _ _ _ _ _ _ _ _ _ _ _ _ _ _ _ _ _ _ _ _ _ _ _ _ _ _ _ _ _ _ _ _ _ _ _ _ _ _ _ _ _ _ _ _ _ _ _ _ _ _ _ _ _ _ _ _ _ _ _ _ _ _ _ _ _ _ _ _ _ _ _ _ _ _ _ _ _ _ _ _ _ _ _ _ _ _ _ _ _ _ _ _ _ _ _ _ _ _ _ _ _ _ _ _ _ _ _ W0 w.heap.size (tx c) (tx U) (tx S1) (tx S2) wa wl wc a1 a2 (by simp only [tx_sz]; simpa using l1) (by simp only [tx_sz]; exact l2) HBX.out (fun W hW => kT W (bt HB0.out hW)) ?_)
  intro X bX
  refine NoPanic.normal ?_
  have HBF : Hid (Below w.heap.size w X) := bt HB0.out bX
  clear bX HBX
  go_wp2
  go_ret2
  exact ⟨⟨S2, rfl, fun _ => HFI.out, by omega⟩, HBF.out⟩
end Go.Proofs.YtidfkencjdjkbaaGreatDoor

/-
  The document's own answer, chapter 15, Print: the text of a question, kind by kind.
-/
namespace Go.Proofs.YtidfkencjdjkbaaGreatDoor
open Go.RowKit Sp
open Go.Lib (decDigits itoa)

set_option maxHeartbeats 4000000 in
set_option maxRecDepth 100000 in
theorem txt4 (x : Qu) (hSx : Say x) (hTx : TX x) (y : Qu) (hSy : Say y) (hTy : TX y) (w : World) (B : Nat) (cs : List Value) (lv : Int) (hB : B ≤ w.heap.size) (h : QI w B (.node 4 [] 0 0 [] 2 x y) cs) (hz : sizQ (.node 4 [] 0 0 [] 2 x y) ≤ 1073741824) (h1 : 1 ≤ lv) (h64 : lv ≤ 64) : Calls Tryz.prog 18 #[.agg cs.toArray, .int .i64 lv] w (TxA (okT (.node 4 [] 0 0 [] 2 x y) (lvl lv)) (tQ (.node 4 [] 0 0 [] 2 x y)) (200000000 * sizQ (.node 4 [] 0 0 [] 2 x y)) w) := by
  have HQ0 : Hid (QI w B (.node 4 [] 0 0 [] 2 x y) cs) := h
  have HSN : Hid (Say (.node 4 [] 0 0 [] 2 x y)) := .inr (.inr (.inr (.inl ⟨by decide, rfl, rfl, rfl, rfl, rfl, hSx, hSy⟩)))
  obtain ⟨wv, ka, kc, rfl, hTI, hnk, -, -, -, -, -, -, -, hkids⟩ := h
  have HTI : Hid (TI w B [] wv) := hTI
  obtain ⟨wa, wc, rfl, hwc, -, -, -⟩ := hTI
  have HL0 : Hid (([] : List Tst).length = 0) := rfl
  rw [HL0.out]
  obtain ⟨m, hm⟩ : ∃ m : Nat, lvl lv = m + 1 := ⟨(64 - lv).toNat, by unfold lvl; omega⟩
  have HM : Hid (lvl lv = m + 1) := hm
  have HM1 : Hid (lvl (lv + 1) = m) := by unfold lvl at *; rw [Hid]; omega
  have hgl : ¬ (64 : Int) < lv := by omega
  have hgd : decide ((64 : Int) < lv) = false := by simpa using hgl
  obtain ⟨W0, hW0⟩ : ∃ W0, w.alloc (.cells #[.int .i64 4, .string (tx []), .int .i64 0, .int .i64 0, .slice wa 0 wc, .slice ka 2 kc] 25) = W0 := ⟨_, rfl⟩
  have HB0 : Hid (Below w.heap.size w W0) := hW0 ▸ ba _ _
  have HX0 : Hid (Bx W0 w.heap.size [.int .i64 4, .string (tx []), .int .i64 0, .int .i64 0, .slice wa 0 wc, .slice ka 2 kc]) := hW0 ▸ Bx.new w [.int .i64 4, .string (tx []), .int .i64 0, .int .i64 0, .slice wa 0 wc, .slice ka 2 kc] 25 rfl
  have z0 := (HX0.out 0 _ rfl).c
  have z1 := (HX0.out 1 _ rfl).c
  have z2 := (HX0.out 2 _ rfl).c
  have z3 := (HX0.out 3 _ rfl).c
  have z4 := (HX0.out 4 _ rfl).c
  have z5 := (HX0.out 5 _ rfl).c
  rw [hm]
  obtain ⟨r, hr⟩ : ∃ r, okT (.node 4 [] 0 0 [] 2 x y) (m + 1) = r := ⟨_, rfl⟩
  have HR : Hid (okT (.node 4 [] 0 0 [] 2 x y) (m + 1) = r) := hr
  rw [hr]
  clear hr
  obtain ⟨bb, ob, rfl, hbb, ⟨xs, hxs, hxc⟩, hyy⟩ := hkids (by omega) (by omega)
  have hbw : bb < w.heap.size := by omega
  obtain ⟨kdx, cx, lox, hix, wax, wnx, wcx, kax, knx, kcx, rfl⟩ := hxs.six
  have HXC : Hid (∀ (j : Nat) u, [.int .i64 kdx, .string (tx cx), .int .i64 lox, .int .i64 hix, .slice wax wnx wcx, .slice kax knx kcx][j]? = some u → w.cell? ⟨bb, ob + j, none⟩ = some u) := hxc
  have HXS : Hid (QI w B x [.int .i64 kdx, .string (tx cx), .int .i64 lox, .int .i64 hix, .slice wax wnx wcx, .slice kax knx kcx]) := hxs
  clear hxc hxs
  obtain ⟨ys, hys, hyc⟩ := hyy (by omega)
  obtain ⟨kdy, cy, loy, hiy, way, wny, wcy, kay, kny, kcy, rfl⟩ := hys.six
  have HYC : Hid (∀ (j : Nat) u, [.int .i64 kdy, .string (tx cy), .int .i64 loy, .int .i64 hiy, .slice way wny wcy, .slice kay kny kcy][j]? = some u → w.cell? ⟨bb, ob + 6 + j, none⟩ = some u) := hyc
  have HYS : Hid (QI w B y [.int .i64 kdy, .string (tx cy), .int .i64 loy, .int .i64 hiy, .slice way wny wcy, .slice kay kny kcy]) := hys
  clear hyc hys
  have hsz : sizQ (.node 4 [] 0 0 [] 2 x y) = 1 + sizQ x + sizQ y := by simp [sizQ]; try omega
  rw [hsz] at hz ⊢
  clear hkids hyy hm
  have kx := hTx W0 B _ lv (Nat.le_trans hB HB0.out.size) (QI.keep (HB0.out.mono hB) _ HXS.out) hSx (by omega) (by omega) (by omega)
  have xp0 : W0.cell? ⟨bb, ob, none⟩ = some (.int .i64 kdx) := (HB0.out.cell (p := ⟨bb, ob, none⟩) hbw).trans (HXC.out 0 _ rfl)
  have xp1 : W0.cell? ⟨bb, ob + 1, none⟩ = some (.string (tx cx)) := (HB0.out.cell (p := ⟨bb, ob + 1, none⟩) hbw).trans (HXC.out 1 _ rfl)
  have xp2 : W0.cell? ⟨bb, ob + 2, none⟩ = some (.int .i64 lox) := (HB0.out.cell (p := ⟨bb, ob + 2, none⟩) hbw).trans (HXC.out 2 _ rfl)
  have xp3 : W0.cell? ⟨bb, ob + 3, none⟩ = some (.int .i64 hix) := (HB0.out.cell (p := ⟨bb, ob + 3, none⟩) hbw).trans (HXC.out 3 _ rfl)
  have xp4 : W0.cell? ⟨bb, ob + 4, none⟩ = some (.slice wax wnx wcx) := (HB0.out.cell (p := ⟨bb, ob + 4, none⟩) hbw).trans (HXC.out 4 _ rfl)
  have xp5 : W0.cell? ⟨bb, ob + 5, none⟩ = some (.slice kax knx kcx) := (HB0.out.cell (p := ⟨bb, ob + 5, none⟩) hbw).trans (HXC.out 5 _ rfl)
  obtain ⟨b1, hb1⟩ : ∃ b, okT x (lvl lv) = b := ⟨_, rfl⟩
  rw [hb1] at kx
  have HB1 : Hid (okT x (lvl lv) = b1) := hb1
  clear hb1
  go_enter Tryz.func18, Tryz.ntmps18
  go_wp2_with fail
  clear hW0
  refine kx.mono ?_
  rintro e w1 ⟨⟨s1, rfl, hs1, hl1⟩, hbw1⟩
  have HS1 : Hid _ := hs1
  have HW1 : Hid (Below w.heap.size w w1) := bt HB0.out hbw1
  have HX1 : Hid (Bx w1 w.heap.size [.int .i64 4, .string (tx []), .int .i64 0, .int .i64 0, .slice wa 0 wc, .slice (some ⟨bb, ob, none⟩) 2 kc]) := HX0.out.at hbw1
  clear kx hs1 hbw1 z0 z1 z2 z3 z4 z5 xp0 xp1 xp2 xp3 xp4 xp5
  have z0 := (HX1.out 0 _ rfl).c
  have z1 := (HX1.out 1 _ rfl).c
  have z2 := (HX1.out 2 _ rfl).c
  have z3 := (HX1.out 3 _ rfl).c
  have z4 := (HX1.out 4 _ rfl).c
  have z5 := (HX1.out 5 _ rfl).c
  have ky := near41 hTy w1 B _ lv (Nat.le_trans hB HW1.out.size) (QI.keep (HW1.out.mono hB) _ HYS.out) hSy (by omega) (by omega) (by omega)
  obtain ⟨b2, hb2⟩ : ∃ b, (if isS y = true then okT y (lvl (lv + 1)) else okT y (lvl lv)) = b := ⟨_, rfl⟩
  rw [hb2] at ky
  have HB2 : Hid ((if isS y = true then okT y (lvl (lv + 1)) else okT y (lvl lv)) = b2) := hb2
  clear hb2
  have yp0 : w1.cell? ⟨bb, ob + 6, none⟩ = some (.int .i64 kdy) := (HW1.out.cell (p := ⟨bb, ob + 6, none⟩) hbw).trans (HYC.out 0 _ rfl)
  have yp1 : w1.cell? ⟨bb, ob + 6 + 1, none⟩ = some (.string (tx cy)) := (HW1.out.cell (p := ⟨bb, ob + 6 + 1, none⟩) hbw).trans (HYC.out 1 _ rfl)
  have yp2 : w1.cell? ⟨bb, ob + 6 + 2, none⟩ = some (.int .i64 loy) := (HW1.out.cell (p := ⟨bb, ob + 6 + 2, none⟩) hbw).trans (HYC.out 2 _ rfl)
  have yp3 : w1.cell? ⟨bb, ob + 6 + 3, none⟩ = some (.int .i64 hiy) := (HW1.out.cell (p := ⟨bb, ob + 6 + 3, none⟩) hbw).trans (HYC.out 3 _ rfl)
  have yp4 : w1.cell? ⟨bb, ob + 6 + 4, none⟩ = some (.slice way wny wcy) := (HW1.out.cell (p := ⟨bb, ob + 6 + 4, none⟩) hbw).trans (HYC.out 4 _ rfl)
  have yp5 : w1.cell? ⟨bb, ob + 6 + 5, none⟩ = some (.slice kay kny kcy) := (HW1.out.cell (p := ⟨bb, ob + 6 + 5, none⟩) hbw).trans (HYC.out 5 _ rfl)
  go_wp2_with fail
  refine ky.mono ?_
  rintro e w2 ⟨⟨s2, rfl, hs2, hl2⟩, hbw2⟩
  have HS2 : Hid _ := hs2
  have HW2 : Hid (Below w.heap.size w w2) := bt HW1.out hbw2
  have HX2 : Hid (Bx w2 w.heap.size [.int .i64 4, .string (tx []), .int .i64 0, .int .i64 0, .slice wa 0 wc, .slice (some ⟨bb, ob, none⟩) 2 kc]) := HX1.out.at hbw2
  clear ky hs2 hbw2 z0 z1 z2 z3 z4 z5 yp0 yp1 yp2 yp3 yp4 yp5
  have z0 := (HX2.out 0 _ rfl).c
  have z1 := (HX2.out 1 _ rfl).c
  have z2 := (HX2.out 2 _ rfl).c
  have z3 := (HX2.out 3 _ rfl).c
  have z4 := (HX2.out 4 _ rfl).c
  have z5 := (HX2.out 5 _ rfl).c
  have a1 := tx_addR (s1) (([32, 43, 32] : By))
  have l1 : ¬ (9223372036854775807 < (s1 : By).length + (([32, 43, 32] : By) : By).length) := by first | omega | (simp only [List.length_cons, List.length_nil]; omega)
  obtain ⟨S1, hT1⟩ : ∃ S, (s1 : By) ++ (([32, 43, 32] : By)) = S := ⟨_, rfl⟩
  rw [hT1] at a1
  have hq1 : S1.length = (s1 : By).length + (([32, 43, 32] : By) : By).length := by rw [← hT1, List.length_append]
  try simp only [List.length_cons, List.length_nil] at hq1
  have a2 := tx_addR (S1) (s2)
  have l2 : ¬ (9223372036854775807 < (S1 : By).length + (s2 : By).length) := by first | omega | (simp only [List.length_cons, List.length_nil]; omega)
  obtain ⟨S2, hT2⟩ : ∃ S, (S1 : By) ++ (s2) = S := ⟨_, rfl⟩
  rw [hT2] at a2
  have hq2 : S2.length = (S1 : By).length + (s2 : By).length := by rw [← hT2, List.length_append]
  try simp only [List.length_cons, List.length_nil] at hq2
  have HFI : Hid (b1 = true → b2 = true → S2 = tQ (.node 4 [] 0 0 [] 2 x y)) := fun e1 e2 => by
    subst hT2 hT1
    rw [HS1.out e1, HS2.out e2]
    show _ = tQ x ++ ([32, 43, 32] ++ bkT (isS y) (tQ y))
    simp only [List.append_assoc]
  have HOK : Hid (r = (b1 && b2 && decide (chnN x + 1 ≤ 64))) := by
    have e1 := HB1.out
    have e2 := HB2.out
    rw [HM.out] at e1 e2
    rw [HM1.out] at e2
    rw [Hid, ← HR.out, okT_sum (by decide), Nat.add_sub_cancel, e1, e2]
  have hfl : S2.length ≤ 200000000 * (1 + (sizQ x + sizQ y)) := by omega
  have HZ : Hid (sizQ x + sizQ y ≤ 1073741824) := by rw [Hid]; omega
  clear hT1 hT2
  cases b1 with
  | false =>
    obtain rfl : r = false := by rw [HOK.out]; simp
    go_wp2
    go_ret2
    exact ⟨⟨S2, rfl, fun h => (by cases h), by omega⟩, HW2.out⟩
  | true =>
  cases b2 with
  | false =>
    obtain rfl : r = false := by rw [HOK.out]; simp
    go_wp2
    go_ret2
    exact ⟨⟨S2, rfl, fun h => (by cases h), by omega⟩, HW2.out⟩
  | true =>
  have hQ : QI w2 B (.node 4 [] 0 0 [] 2 x y) [.int .i64 4, .string (tx []), .int .i64 0, .int .i64 0, .slice wa 0 wc, .slice (some ⟨bb, ob, none⟩) 2 kc] := QI.keep (HW2.out.mono hB) _ HQ0.out
  have hcn : chnN (.node 4 [] 0 0 [] 2 x y) = chnN x + 1 := by rw [chnN, if_pos (by decide)]
  have hcs := chn_siz x
  have kc2 := chain_any (.node 4 [] 0 0 [] 2 x y) w2 B _ (Nat.le_trans hB HW2.out.size) hQ HSN.out (by have := HZ.out; omega)
  rw [hcn] at kc2
  obtain ⟨M, hM⟩ : ∃ M, chnN x + 1 = M := ⟨_, rfl⟩
  rw [hM] at kc2
  have HMM : Hid (chnN x + 1 = M) := hM
  clear hQ hcn hcs hM
  go_wp2_with fail
  refine kc2.mono ?_
  rintro e w3 ⟨rfl, hbw3⟩
  have HW3 : Hid (Below w.heap.size w w3) := bt HW2.out hbw3
  clear kc2 hbw3
  by_cases hM64 : M ≤ 64
  · have d1 : (M : Int) ≤ 64 := by omega
    have d2 : decide ((M : Int) ≤ 64) = true := by simpa using d1
    have d3 : decide (M ≤ 64) = true := by simpa using hM64
    obtain rfl : r = true := by rw [HOK.out, HMM.out]; simpa using hM64
    go_wp2
    go_ret2
    exact ⟨⟨S2, rfl, fun _ => HFI.out (by first | rfl | trivial) (by first | rfl | trivial), by omega⟩, HW3.out⟩
  · have d1 : ¬ (M : Int) ≤ 64 := by omega
    have d2 : decide ((M : Int) ≤ 64) = false := by simpa using d1
    have d3 : decide (M ≤ 64) = false := by simpa using hM64
    obtain rfl : r = false := by rw [HOK.out, HMM.out]; simpa using hM64
    go_wp2
    go_ret2
    exact ⟨⟨S2, rfl, fun h => (by cases h), by omega⟩, HW3.out⟩
end Go.Proofs.YtidfkencjdjkbaaGreatDoor
