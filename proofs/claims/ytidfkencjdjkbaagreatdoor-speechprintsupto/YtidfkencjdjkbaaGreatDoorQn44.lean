import Derived.Test.YtidfkencjdjkbaaGreatDoorQn38
import Derived.Test.YtidfkencjdjkbaaGreatDoorQn34
import Derived.Test.YtidfkencjdjkbaaGreatDoorQn39
import Derived.Test.YtidfkencjdjkbaaGreatDoorQn40
import Derived.Test.YtidfkencjdjkbaaGreatDoorQn41
import Derived.Test.YtidfkencjdjkbaaGreatDoorQn43
/-
  The document's own answer, chapter 15, Print: the text of a question, kind by kind.
-/
namespace Go.Proofs.YtidfkencjdjkbaaGreatDoor
open Go.RowKit Sp
open Go.Lib (decDigits itoa)

set_option maxHeartbeats 4000000 in
set_option maxRecDepth 100000 in
theorem txt10 (lo : Int) (hlo : -1048576 ≤ lo ∧ lo ≤ 1048576) (hi : Int) (hhi : -1048576 ≤ hi ∧ hi ≤ 1048576) (x : Qu) (hSx : Say x) (hTx : TX x) (w : World) (B : Nat) (cs : List Value) (lv : Int) (hB : B ≤ w.heap.size) (h : QI w B (.node 10 [] lo hi [] 1 x .none) cs) (hz : sizQ (.node 10 [] lo hi [] 1 x .none) ≤ 1073741824) (h1 : 1 ≤ lv) (h64 : lv ≤ 64) : Calls Tryz.prog 18 #[.agg cs.toArray, .int .i64 lv] w (TxA (okT (.node 10 [] lo hi [] 1 x .none) (lvl lv)) (tQ (.node 10 [] lo hi [] 1 x .none)) (200000000 * sizQ (.node 10 [] lo hi [] 1 x .none)) w) := by
  obtain ⟨wv, ka, kc, rfl, hTI, hnk, -, -, -, -, -, -, -, hkids⟩ := h
  have HTI : Hid (TI w B [] wv) := hTI
  obtain ⟨wa, wc, rfl, hwc, -, -, -⟩ := hTI
  have HL0 : Hid (([] : List Tst).length = 0) := rfl
  rw [HL0.out]
  obtain ⟨m, hm⟩ : ∃ m : Nat, lvl lv = m + 1 := ⟨(64 - lv).toNat, by unfold lvl; omega⟩
  have HM : Hid (lvl lv = m + 1) := hm
  have HM1 : Hid (lvl (lv + 1) = m) := by unfold lvl at *; rw [Hid]; omega
  have hgl : ¬ (64 : Int) < lv := by omega
  have hgd : decide ((64 : Int) < lv) = false := by simpa using hgl
  obtain ⟨W0, hW0⟩ : ∃ W0, w.alloc (.cells #[.int .i64 10, .string (tx []), .int .i64 lo, .int .i64 hi, .slice wa 0 wc, .slice ka 1 kc] 25) = W0 := ⟨_, rfl⟩
  have HB0 : Hid (Below w.heap.size w W0) := hW0 ▸ ba _ _
  have HX0 : Hid (Bx W0 w.heap.size [.int .i64 10, .string (tx []), .int .i64 lo, .int .i64 hi, .slice wa 0 wc, .slice ka 1 kc]) := hW0 ▸ Bx.new w [.int .i64 10, .string (tx []), .int .i64 lo, .int .i64 hi, .slice wa 0 wc, .slice ka 1 kc] 25 rfl
  have z0 := (HX0.out 0 _ rfl).c
  have z1 := (HX0.out 1 _ rfl).c
  have z2 := (HX0.out 2 _ rfl).c
  have z3 := (HX0.out 3 _ rfl).c
  have z4 := (HX0.out 4 _ rfl).c
  have z5 := (HX0.out 5 _ rfl).c
  rw [hm]
  obtain ⟨r, hr⟩ : ∃ r, okT (.node 10 [] lo hi [] 1 x .none) (m + 1) = r := ⟨_, rfl⟩
  have HR : Hid (okT (.node 10 [] lo hi [] 1 x .none) (m + 1) = r) := hr
  rw [hr]
  clear hr
  obtain ⟨bb, ob, rfl, hbb, ⟨xs, hxs, hxc⟩, hyy⟩ := hkids (by omega) (by omega)
  have hbw : bb < w.heap.size := by omega
  obtain ⟨kdx, cx, lox, hix, wax, wnx, wcx, kax, knx, kcx, rfl⟩ := hxs.six
  have HXC : Hid (∀ (j : Nat) u, [.int .i64 kdx, .string (tx cx), .int .i64 lox, .int .i64 hix, .slice wax wnx wcx, .slice kax knx kcx][j]? = some u → w.cell? ⟨bb, ob + j, none⟩ = some u) := hxc
  have HXS : Hid (QI w B x [.int .i64 kdx, .string (tx cx), .int .i64 lox, .int .i64 hix, .slice wax wnx wcx, .slice kax knx kcx]) := hxs
  clear hxc hxs
  have hsz : sizQ (.node 10 [] lo hi [] 1 x .none) = 1 + sizQ x := by simp [sizQ]
  rw [hsz] at hz ⊢
  clear hkids hyy hm
  have kx := brk43 hTx W0 B _ lv (Nat.le_trans hB HB0.out.size) (QI.keep (HB0.out.mono hB) _ HXS.out) hSx (by omega) (by omega) (by omega)
  have xp0 : W0.cell? ⟨bb, ob, none⟩ = some (.int .i64 kdx) := (HB0.out.cell (p := ⟨bb, ob, none⟩) hbw).trans (HXC.out 0 _ rfl)
  have xp1 : W0.cell? ⟨bb, ob + 1, none⟩ = some (.string (tx cx)) := (HB0.out.cell (p := ⟨bb, ob + 1, none⟩) hbw).trans (HXC.out 1 _ rfl)
  have xp2 : W0.cell? ⟨bb, ob + 2, none⟩ = some (.int .i64 lox) := (HB0.out.cell (p := ⟨bb, ob + 2, none⟩) hbw).trans (HXC.out 2 _ rfl)
  have xp3 : W0.cell? ⟨bb, ob + 3, none⟩ = some (.int .i64 hix) := (HB0.out.cell (p := ⟨bb, ob + 3, none⟩) hbw).trans (HXC.out 3 _ rfl)
  have xp4 : W0.cell? ⟨bb, ob + 4, none⟩ = some (.slice wax wnx wcx) := (HB0.out.cell (p := ⟨bb, ob + 4, none⟩) hbw).trans (HXC.out 4 _ rfl)
  have xp5 : W0.cell? ⟨bb, ob + 5, none⟩ = some (.slice kax knx kcx) := (HB0.out.cell (p := ⟨bb, ob + 5, none⟩) hbw).trans (HXC.out 5 _ rfl)
  obtain ⟨b1, hb1⟩ : ∃ b, okT x (lvl (lv + 1)) = b := ⟨_, rfl⟩
  rw [hb1] at kx
  have HB1 : Hid (okT x (lvl (lv + 1)) = b1) := hb1
  clear hb1
  go_enter Tryz.func18, Tryz.ntmps18
  go_wp2_with fail
  clear hW0
  refine kx.mono ?_
  rintro e w1 ⟨⟨s1, rfl, hs1, hl1⟩, hbw1⟩
  have HS1 : Hid _ := hs1
  have HW1 : Hid (Below w.heap.size w w1) := bt HB0.out hbw1
  have HX1 : Hid (Bx w1 w.heap.size [.int .i64 10, .string (tx []), .int .i64 lo, .int .i64 hi, .slice wa 0 wc, .slice (some ⟨bb, ob, none⟩) 1 kc]) := HX0.out.at hbw1
  clear kx hs1 hbw1 z0 z1 z2 z3 z4 z5 xp0 xp1 xp2 xp3 xp4 xp5
  have z0 := (HX1.out 0 _ rfl).c
  have z1 := (HX1.out 1 _ rfl).c
  have z2 := (HX1.out 2 _ rfl).c
  have z3 := (HX1.out 3 _ rfl).c
  have z4 := (HX1.out 4 _ rfl).c
  have z5 := (HX1.out 5 _ rfl).c
  have kL := fun W => rnum_any lo hlo.1 hlo.2 W
  have kH := fun W => rnum_any hi hhi.1 hhi.2 W
  have hLl := itoaR_len hlo.1 hlo.2
  have hHl := itoaR_len hhi.1 hhi.2
  obtain ⟨L, hL⟩ : ∃ L, itoa lo = L := ⟨_, rfl⟩
  obtain ⟨H, hH⟩ : ∃ H, itoa hi = H := ⟨_, rfl⟩
  rw [hL] at kL hLl
  rw [hH] at kH hHl
  have HLL : Hid (itoa lo = L) := hL
  have HHH : Hid (itoa hi = H) := hH
  clear hL hH
  have a1 := tx_addR (([99, 108, 97, 109, 112, 32] : By)) (L)
  have l1 : ¬ (9223372036854775807 < (([99, 108, 97, 109, 112, 32] : By) : By).length + (L : By).length) := by first | omega | (simp only [List.length_cons, List.length_nil]; omega)
  obtain ⟨S1, hT1⟩ : ∃ S, (([99, 108, 97, 109, 112, 32] : By) : By) ++ (L) = S := ⟨_, rfl⟩
  rw [hT1] at a1
  have hq1 : S1.length = (([99, 108, 97, 109, 112, 32] : By) : By).length + (L : By).length := by rw [← hT1, List.length_append]
  try simp only [List.length_cons, List.length_nil] at hq1
  have a2 := tx_addR (S1) (sDots)
  have l2 : ¬ (9223372036854775807 < (S1 : By).length + (sDots : By).length) := by first | omega | (simp only [List.length_cons, List.length_nil]; omega)
  obtain ⟨S2, hT2⟩ : ∃ S, (S1 : By) ++ (sDots) = S := ⟨_, rfl⟩
  rw [hT2] at a2
  have hq2 : S2.length = (S1 : By).length + (sDots : By).length := by rw [← hT2, List.length_append]
  try simp only [List.length_cons, List.length_nil] at hq2
  have a3 := tx_addR (S2) (H)
  have l3 : ¬ (9223372036854775807 < (S2 : By).length + (H : By).length) := by first | omega | (simp only [List.length_cons, List.length_nil]; omega)
  obtain ⟨S3, hT3⟩ : ∃ S, (S2 : By) ++ (H) = S := ⟨_, rfl⟩
  rw [hT3] at a3
  have hq3 : S3.length = (S2 : By).length + (H : By).length := by rw [← hT3, List.length_append]
  try simp only [List.length_cons, List.length_nil] at hq3
  have a4 := tx_addR (S3) (([32] : By))
  have l4 : ¬ (9223372036854775807 < (S3 : By).length + (([32] : By) : By).length) := by first | omega | (simp only [List.length_cons, List.length_nil]; omega)
  obtain ⟨S4, hT4⟩ : ∃ S, (S3 : By) ++ (([32] : By)) = S := ⟨_, rfl⟩
  rw [hT4] at a4
  have hq4 : S4.length = (S3 : By).length + (([32] : By) : By).length := by rw [← hT4, List.length_append]
  try simp only [List.length_cons, List.length_nil] at hq4
  have a5 := tx_addR (S4) (s1)
  have l5 : ¬ (9223372036854775807 < (S4 : By).length + (s1 : By).length) := by first | omega | (simp only [List.length_cons, List.length_nil]; omega)
  obtain ⟨S5, hT5⟩ : ∃ S, (S4 : By) ++ (s1) = S := ⟨_, rfl⟩
  rw [hT5] at a5
  have hq5 : S5.length = (S4 : By).length + (s1 : By).length := by rw [← hT5, List.length_append]
  try simp only [List.length_cons, List.length_nil] at hq5
  have HFI : Hid (b1 = true → S5 = tQ (.node 10 [] lo hi [] 1 x .none)) := fun e1 => by
    subst hT5 hT4 hT3 hT2 hT1
    rw [HS1.out e1, ← HLL.out, ← HHH.out]
    show _ = wClamp ++ ([32] ++ (itoa lo ++ (sDots ++ (itoa hi ++ ([32] ++ bkT true (tQ x))))))
    simp only [List.append_assoc]
    rfl
  have HOK : Hid (r = b1) := by
    have e1 := HB1.out
    rw [HM1.out] at e1
    rw [Hid, ← HR.out, okT_one (by decide), e1]
  have hfl : S5.length ≤ 200000000 * (1 + sizQ x) := by omega
  obtain rfl : b1 = r := HOK.out.symm
  have HBX : Hid (∀ X, Below w1.heap.size w1 X → X.cell? ⟨w.heap.size, 2, none⟩ = some (.int .i64 lo) ∧ X.cell? ⟨w.heap.size, 3, none⟩ = some (.int .i64 hi)) := fun X hX => ⟨((HX1.out.at hX) 2 _ rfl).c, ((HX1.out.at hX) 3 _ rfl).c⟩
  clear hT1 hT2 hT3 hT4 hT5
  go_upto_region 32 with fail
  refine wp_region_noPanic (xregion32 (fun _ _ _ _ _ h => h) _ _ _ _ _ _ _ _ _ _ _ _ _ _ _ _ _ _ _ _ _ _ _ _ _ _ _ _ _ _ _ _ _ _ _ _ _ _ _ _ _ _ _ _ _ _ _ _ _ _ _ _ _ _ _ _ _ _ _ _ _ _ _ _ _ _ _ _ _ _ _ _ _ _ _ _ _ _ _ _ _ _ _ _ _ _ _ _ _ _ _ _ _ _ _ _ _ _ _ _ _ _ _ _ _ _ _ _ _ _ _ _ _ _ _ _ _ _ _ _ _ _ _ _ _ _ _ _ _ _ _ _ _ _ _ _ _ _ _ _ _ _ _ _ _ _ _ _ _ _ _ _ _ _ _ _ _ _ _ _ _ _ _ _ _ _ _ _ _ _ _ _ _ _ _ _ _ _ _ _ _ _ _ _ _ _ _ _ _ _ _ _ _ _ _ _ _ _ _ _ _ _ _ _ _ _ _ _ _ _ _ _ _ _ _ _ _ _ _ _ _ _ _ _ _ _ _ _ _ _ _ _ _ _ _ _ _ _ _ _ _ _ _ w1 w.heap.size lo hi _ (tx s1) (tx L) (tx H) (tx S1) (tx S2) (tx S3) (tx S4) (tx S5) a1 a2 a3 a4 a5 (by simp only [tx_sz]; simpa using l1) (by simp only [tx_sz]; simpa using l2) (by simp only [tx_sz]; exact l3) (by simp only [tx_sz]; simpa using l4) (by simp only [tx_sz]; exact l5) HBX.out (fun W _ => kL W) (fun W _ => kH W) ?_)
  intro X bX
  refine NoPanic.normal ?_
  have HBF : Hid (Below w.heap.size w X) := bt HW1.out bX
  clear bX HBX
  go_wp2
  go_ret2
  exact ⟨⟨S5, rfl, HFI.out, by omega⟩, HBF.out⟩
end Go.Proofs.YtidfkencjdjkbaaGreatDoor

/-
  The document's own answer, chapter 15: Print.
-/
namespace Go.Proofs.YtidfkencjdjkbaaGreatDoor
open Go.RowKit Sp

/-- TEXT -/
theorem txt_all : ∀ q : Qu, TX q
  | .none => fun _ _ _ _ _ hI => hI.elim
  | .node kd c lo hi wh n x y => by
    intro w B cs lv hB hI hS hz h1 h100
    by_cases hl : 64 < lv
    · exact txt_hi w B cs lv hI hl
    have hX := txt_all x
    have hY := txt_all y
    have h64 : lv ≤ 64 := by omega
    rcases hS with ⟨rfl, rfl, rfl, rfl, rfl, hwh, rfl, rfl⟩ | ⟨rfl, hc, hlo, hhi, rfl, hwh, rfl, rfl⟩ | ⟨rfl, hc, rfl, rfl, rfl, hwh, rfl, rfl⟩ | ⟨hk, rfl, rfl, rfl, rfl, rfl, hSx, hSy⟩ | ⟨rfl, rfl, hlo, rfl, rfl, rfl, hSx, rfl⟩ | ⟨rfl, rfl, rfl, rfl, rfl, rfl, hSx, rfl⟩ | ⟨rfl, rfl, hlo, rfl, rfl, rfl, hSx, rfl⟩ | ⟨rfl, rfl, hlo, hhi, rfl, rfl, hSx, rfl⟩
    · exact txt1 wh hwh w B cs lv hB hI hz h1 h64
    · exact txt2 c hc lo hlo hi hhi wh hwh w B cs lv hB hI hz h1 h64
    · exact txt3 c hc wh hwh w B cs lv hB hI hz h1 h64
    · rcases hk with rfl | rfl | rfl
      · exact txt4 x hSx hX y hSy hY w B cs lv hB hI hz h1 h64
      · exact txt5 x hSx hX y hSy hY w B cs lv hB hI hz h1 h64
      · exact txt7 x hSx hX y hSy hY w B cs lv hB hI hz h1 h64
    · exact txt6 lo hlo x hSx hX w B cs lv hB hI hz h1 h64
    · exact txt8 x hSx hX w B cs lv hB hI hz h1 h64
    · exact txt9 lo hlo x hSx hX w B cs lv hB hI hz h1 h64
    · exact txt10 lo hlo hi hhi x hSx hX w B cs lv hB hI hz h1 h64
theorem prR_no {q : Qu} (h : ckB q = false) : prR q = ([], 2) := by
  unfold prR prtT
  rw [if_neg (by rw [h]; decide)]
theorem prR_yes {q : Qu} {cs : List Value} {w : World} {B : Nat} (hI : QI w B q cs) (h : ckB q = true) : prR q = if okT q 64 = true ∧ (tQ q).length ≤ 65536 then (tQ q, 0) else ([], 4) := by
  have hS := say_of_ck q cs hI h
  rw [tQ_txt hS]
  unfold prR prtT
  rw [if_pos h]
  by_cases hl : (txtT q).length ≤ 65536
  · rw [if_pos hl]
    obtain ⟨g1, g2⟩ := said_ex hS hl
    cases ho : okT q 64 with
    | true =>
      have hm : ¬ mchB (txtT q) = true := by
        unfold mchB
        rw [g1 ho]
        simp
      rw [if_neg hm, if_pos ⟨rfl, hl⟩]
    | false =>
      obtain ⟨n, hn⟩ := g2 ho
      have hm : mchB (txtT q) = true := by
        unfold mchB
        rw [hn]
        rfl
      rw [if_pos hm, if_neg (by rintro ⟨e, _⟩; cases e)]
  · rw [if_neg hl, if_neg (by rintro ⟨_, e⟩; exact hl e)]
set_option maxHeartbeats 2000000 in
set_option maxRecDepth 100000 in
/-- the document's own PRINT -/
theorem rprint_any (q : Qu) (w : World) (B : Nat) (cs : List Value) (hB : B ≤ w.heap.size) (hI : QI w B q cs) (hz : sizQ q ≤ 1073741824) (t : By) (er : Int) (hp : prR q = (t, er)) : Calls Tryz.prog 6 #[.agg cs.toArray] w fun e w' => e = .returned (.tuple #[.string (tx t), .int .i64 er]) ∧ Below w.heap.size w w' := by
  have HI : Hid (QI w B q cs) := hI
  have HP : Hid (prR q = (t, er)) := hp
  obtain ⟨kd, c, lo, hi, wa, wn, wc, ka, kn, kc, rfl⟩ := hI.six
  obtain ⟨W0, hW0⟩ : ∃ W0, w.alloc (.cells #[.int .i64 kd, .string (tx c), .int .i64 lo, .int .i64 hi, .slice wa wn wc, .slice ka kn kc] 25) = W0 := ⟨_, rfl⟩
  have HB0 : Hid (Below w.heap.size w W0) := hW0 ▸ ba _ _
  have HX0 : Hid (Bx W0 w.heap.size [.int .i64 kd, .string (tx c), .int .i64 lo, .int .i64 hi, .slice wa wn wc, .slice ka kn kc]) := hW0 ▸ Bx.new w [.int .i64 kd, .string (tx c), .int .i64 lo, .int .i64 hi, .slice wa wn wc, .slice ka kn kc] 25 rfl
  have z0 := (HX0.out 0 _ rfl).c
  have z1 := (HX0.out 1 _ rfl).c
  have z2 := (HX0.out 2 _ rfl).c
  have z3 := (HX0.out 3 _ rfl).c
  have z4 := (HX0.out 4 _ rfl).c
  have z5 := (HX0.out 5 _ rfl).c
  obtain ⟨b, hb⟩ : ∃ b, ckB q = b := ⟨_, rfl⟩
  have k1 := sayb_any q W0 B _ (Nat.le_trans hB HB0.out.size) (QI.keep (HB0.out.mono hB) _ HI.out)
  rw [hb] at k1
  have HBB : Hid (ckB q = b) := hb
  clear hb hI hp
  go_enter Tryz.func6, Tryz.ntmps6
  go_wp2_with fail
  clear hW0
  refine k1.mono ?_
  rintro e w1 ⟨rfl, hb1⟩
  have HB1 : Hid (Below w.heap.size w w1) := bt HB0.out hb1
  have HX1 : Hid (Bx w1 w.heap.size [.int .i64 kd, .string (tx c), .int .i64 lo, .int .i64 hi, .slice wa wn wc, .slice ka kn kc]) := HX0.out.at hb1
  clear k1 hb1 z0 z1 z2 z3 z4 z5
  cases b with
  | false =>
    have hp := HP.out
    rw [prR_no HBB.out] at hp
    simp only [Prod.mk.injEq] at hp
    obtain ⟨rfl, rfl⟩ := hp
    go_wp2
    go_ret2
    exact ⟨rfl, HB1.out⟩
  | true =>
    have hS := say_of_ck q _ HI.out HBB.out
    have hp := HP.out
    rw [prR_yes HI.out HBB.out] at hp
    have HP2 : Hid ((if okT q 64 = true ∧ (tQ q).length ≤ 65536 then (tQ q, (0 : Int)) else ([], 4)) = (t, er)) := hp
    have k2 := txt_all q w1 B _ 1 (Nat.le_trans hB HB1.out.size) (QI.keep (HB1.out.mono hB) _ HI.out) hS hz (by omega) (by omega)
    have hl1 : lvl 1 = 64 := by decide
    rw [hl1] at k2
    obtain ⟨ok, hok⟩ : ∃ ok, okT q 64 = ok := ⟨_, rfl⟩
    rw [hok] at k2
    have HOK : Hid (okT q 64 = ok) := hok
    have z0 := (HX1.out 0 _ rfl).c
    have z1 := (HX1.out 1 _ rfl).c
    have z2 := (HX1.out 2 _ rfl).c
    have z3 := (HX1.out 3 _ rfl).c
    have z4 := (HX1.out 4 _ rfl).c
    have z5 := (HX1.out 5 _ rfl).c
    clear hl1 hok hp
    go_wp2_with fail
    refine k2.mono ?_
    rintro e w2 ⟨⟨s, rfl, hs, hl⟩, hb2⟩
    have HB2 : Hid (Below w.heap.size w w2) := bt HB1.out hb2
    have HS2 : Hid (ok = true → s = tQ q) := hs
    have hsz : (tx s).size = s.length := tx_sz s
    clear k2 hb2 hs z0 z1 z2 z3 z4 z5
    cases ok with
    | false =>
      have hp := HP2.out
      rw [if_neg (by rw [HOK.out]; rintro ⟨e, _⟩; cases e)] at hp
      simp only [Prod.mk.injEq] at hp
      obtain ⟨rfl, rfl⟩ := hp
      go_wp2
      go_ret2
      exact ⟨rfl, HB2.out⟩
    | true =>
      have hst := HS2.out rfl
      have hp := HP2.out
      rw [← hst] at hp
      by_cases hg : 65536 < s.length
      · have d1 : (65536 : Int) < (s.length : Int) := by omega
        have d2 : decide ((65536 : Int) < (s.length : Int)) = true := by simpa using d1
        rw [if_neg (by rintro ⟨_, e⟩; omega)] at hp
        simp only [Prod.mk.injEq] at hp
        obtain ⟨rfl, rfl⟩ := hp
        clear hst
        go_wp2
        go_ret2
        exact ⟨rfl, HB2.out⟩
      · have d1 : ¬ (65536 : Int) < (s.length : Int) := by omega
        have d2 : decide ((65536 : Int) < (s.length : Int)) = false := by simpa using d1
        rw [if_pos ⟨HOK.out, by omega⟩] at hp
        simp only [Prod.mk.injEq] at hp
        obtain ⟨rfl, rfl⟩ := hp
        clear hst
        go_wp2
        go_ret2
        exact ⟨rfl, HB2.out⟩
end Go.Proofs.YtidfkencjdjkbaaGreatDoor

/-
  LAW SpeechPrints: Print of anything.
-/
namespace Go.Proofs.YtidfkencjdjkbaaGreatDoor
open Go.RowKit Sp

set_option maxHeartbeats 2000000 in
set_option maxRecDepth 100000 in
theorem speechPrints_walk (q : Qu) (cs : List Value) (w : World) (hI : QI w w.heap.size q cs) (hz : sizQ q ≤ 1073741824) (hG : Glo w) (hpt : PT w.heap.size w) : Calls Tryz.prog 3 #[.agg cs.toArray] w fun e w' => e = .returned (.bool true) ∧ Below w.heap.size w w' := by
  have HI : Hid (QI w w.heap.size q cs) := hI
  have HG : Hid (Glo w) := hG
  have HPT : Hid (PT w.heap.size w) := hpt
  have h5 : 5 ≤ w.heap.size := hG.sz
  obtain ⟨kd, c, lo, hi, wa, wn, wc, ka, kn, kc, rfl⟩ := hI.six
  obtain ⟨W0, hW0⟩ : ∃ W0, w.alloc (.cells #[.int .i64 kd, .string (tx c), .int .i64 lo, .int .i64 hi, .slice wa wn wc, .slice ka kn kc] 25) = W0 := ⟨_, rfl⟩
  have HB0 : Hid (Below w.heap.size w W0) := hW0 ▸ ba _ _
  have HX0 : Hid (Bx W0 w.heap.size [.int .i64 kd, .string (tx c), .int .i64 lo, .int .i64 hi, .slice wa wn wc, .slice ka kn kc]) := hW0 ▸ Bx.new w [.int .i64 kd, .string (tx c), .int .i64 lo, .int .i64 hi, .slice wa wn wc, .slice ka kn kc] 25 rfl
  have z0 := (HX0.out 0 _ rfl).c
  have z1 := (HX0.out 1 _ rfl).c
  have z2 := (HX0.out 2 _ rfl).c
  have z3 := (HX0.out 3 _ rfl).c
  have z4 := (HX0.out 4 _ rfl).c
  have z5 := (HX0.out 5 _ rfl).c
  obtain ⟨t, er, hp⟩ : ∃ t er, prR q = (t, er) := ⟨_, _, rfl⟩
  have HP : Hid (prR q = (t, er)) := hp
  have k1 := print_any q W0 w.heap.size _ HB0.out.size h5 (QI.keep HB0.out q HI.out) (HG.out.at HB0.out) (HPT.out.on HB0.out) t er hp
  clear hp hI hG hpt
  go_enter Tryz.func3, Tryz.ntmps3
  go_wp2_with fail
  clear hW0
  refine k1.mono ?_
  rintro e w1 ⟨rfl, hb1⟩
  have HB1 : Hid (Below w.heap.size w w1) := bt HB0.out hb1
  have HX1 : Hid (Bx w1 w.heap.size [.int .i64 kd, .string (tx c), .int .i64 lo, .int .i64 hi, .slice wa wn wc, .slice ka kn kc]) := HX0.out.at hb1
  clear k1 hb1 z0 z1 z2 z3 z4 z5
  have z0 := (HX1.out 0 _ rfl).c
  have z1 := (HX1.out 1 _ rfl).c
  have z2 := (HX1.out 2 _ rfl).c
  have z3 := (HX1.out 3 _ rfl).c
  have z4 := (HX1.out 4 _ rfl).c
  have z5 := (HX1.out 5 _ rfl).c
  have k2 := rprint_any q w1 w.heap.size _ HB1.out.size (QI.keep HB1.out q HI.out) hz t er HP.out
  go_wp2_with fail
  refine k2.mono ?_
  rintro e w2 ⟨rfl, hb2⟩
  have HB2 : Hid (Below w.heap.size w w2) := bt HB1.out hb2
  have q1 := eqs t t true (by simp)
  clear k2 hb2 z0 z1 z2 z3 z4 z5
  go_wp2
  go_ret
  exact ⟨rfl, HB2.out⟩
end Go.Proofs.YtidfkencjdjkbaaGreatDoor
