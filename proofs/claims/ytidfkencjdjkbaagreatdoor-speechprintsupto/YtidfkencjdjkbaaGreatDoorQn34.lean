import Derived.Test.YtidfkencjdjkbaaGreatDoorQn30
import Derived.Test.YtidfkencjdjkbaaGreatDoorQn31
import Derived.Test.YtidfkencjdjkbaaGreatDoorQn32
import Derived.Test.YtidfkencjdjkbaaGreatDoorQn33
/-
  The document's own answer, chapter 15, Print: may a question be said?
-/
namespace Go.Proofs.YtidfkencjdjkbaaGreatDoor
open Go.RowKit Sp

set_option maxHeartbeats 4000000 in
set_option maxRecDepth 100000 in
theorem say9 (c : By) (lo hi : Int) (wh : List Tst) (n : Nat) (x y : Qu) (w : World) (B : Nat) (cs : List Value) (hB : B ≤ w.heap.size) (h : QI w B (.node 9 c lo hi wh n x y) cs) (hIX : ∀ (w : World) (cs : List Value), B ≤ w.heap.size → QI w B x cs → Calls Tryz.prog 17 #[.agg cs.toArray] w (SaP w (ckB x))) (hIY : ∀ (w : World) (cs : List Value), B ≤ w.heap.size → QI w B y cs → Calls Tryz.prog 17 #[.agg cs.toArray] w (SaP w (ckB y))) : Calls Tryz.prog 17 #[.agg cs.toArray] w (SaP w (ckB (.node 9 c lo hi wh n x y))) := by
  have hs : shpT 9 = some (1, false, 0, 1048576, 0, 0) := rfl
  have ckI : ∀ (c : By) (lo hi : Int) (wh : List Tst) (n : Nat), ckB (.node 9 c lo hi wh n x y) = true ↔ (n : Int) = 1 ∧ ((0 : Int) ≤ lo ∧ lo ≤ 1048576) ∧ ((-0 : Int) ≤ hi ∧ hi ≤ 0) ∧ (wh.length : Int) ≤ 0 ∧ (if false = true then nmd c else decide (c = [])) = true ∧ wh.all tsB = true ∧ (if 1 ≤ n then ckB x else true) = true ∧ (if 2 ≤ n then ckB y else true) = true := fun c lo hi wh n => ck_iff hs
  obtain ⟨wv, ka, kc, rfl, hTI, hnk, hn63, hc60, hk64, hl64, hh64, hx0, hy0, hkids⟩ := h
  have HTI : Hid (TI w B wh wv) := hTI
  obtain ⟨wa, wc, rfl, hwc, hw63, _, _⟩ := hTI
  obtain ⟨wl, hwl⟩ : ∃ wl, wh.length = wl := ⟨_, rfl⟩
  have HWL : Hid (wh.length = wl) := hwl
  rw [hwl] at hwc hw63 HTI ⊢
  clear hwl
  have HKI : Hid (1 ≤ n → n ≤ 2 → ∃ b o, ka = some ⟨b, o, none⟩ ∧ b < B ∧ (∃ xs, QI w B x xs ∧ ∀ (j : Nat) u, xs[j]? = some u → w.cell? ⟨b, o + j, none⟩ = some u) ∧ (2 ≤ n → ∃ ys, QI w B y ys ∧ ∀ (j : Nat) u, ys[j]? = some u → w.cell? ⟨b, o + 6 + j, none⟩ = some u)) := hkids
  have HIX : Hid _ := hIX
  have HIY : Hid _ := hIY
  obtain ⟨W0, hW0⟩ : ∃ W0, w.alloc (.cells #[.int .i64 9, .string (tx c), .int .i64 lo, .int .i64 hi, .slice wa wl wc, .slice ka n kc] 25) = W0 := ⟨_, rfl⟩
  have HBL0 : Hid (Below w.heap.size w W0) := hW0 ▸ ba _ _
  have HB0 : Hid (Bx W0 w.heap.size [.int .i64 9, .string (tx c), .int .i64 lo, .int .i64 hi, .slice wa wl wc, .slice ka n kc]) := hW0 ▸ Bx.new w [.int .i64 9, .string (tx c), .int .i64 lo, .int .i64 hi, .slice wa wl wc, .slice ka n kc] 25 rfl
  have z0 := (HB0.out 0 _ rfl).c
  have z1 := (HB0.out 1 _ rfl).c
  have z2 := (HB0.out 2 _ rfl).c
  have z3 := (HB0.out 3 _ rfl).c
  have z4 := (HB0.out 4 _ rfl).c
  have z5 := (HB0.out 5 _ rfl).c
  obtain ⟨r, hr⟩ : ∃ r, ckB (.node 9 c lo hi wh n x y) = r := ⟨_, rfl⟩
  have HR : Hid (ckB (.node 9 c lo hi wh n x y) = r) := hr
  rw [hr]
  clear hkids hx0 hy0 hr hIX hIY hk64
  go_enter Tryz.func17, Tryz.ntmps17
  by_cases hn : n = 1
  rotate_left
  · have e1 : ¬ (n : Int) = 1 := by omega
    have e2 : ((n : Int) == 1) = false := by simpa using e1
    have e3 : ((n : Int) != 1) = true := by simpa using e1
    obtain rfl := ck_no HR.out (fun h => hn (by have := ((ckI _ _ _ _ _).1 h).1; omega))
    go_wp2
    clear hW0
    go_ret
    exact ⟨rfl, HBL0.out⟩
  have hnI : (n : Int) = 1 := by omega
  have HNE : Hid (n = 1) := hn
  clear hn
  by_cases hhi : hi = 0
  rotate_left
  · have e2 : (hi == 0) = false := by simpa using hhi
    have e3 : (hi != 0) = true := by simpa using hhi
    obtain rfl := ck_no HR.out (fun h => hhi (by have := ((ckI _ _ _ _ _).1 h).2.2.1; omega))
    go_wp2
    clear hW0
    go_ret
    exact ⟨rfl, HBL0.out⟩
  subst hhi
  by_cases fl : farB lo = true
  · obtain rfl := ck_no HR.out (fun h => by have := ((ckI _ _ _ _ _).1 h).2.1; simp [farB] at fl; omega)
    have k0 := far_any lo W0 true fl
    go_wp2_with fail
    clear hW0
    refine k0.mono ?_
    rintro e W0 ⟨rfl, rfl⟩
    clear k0
    go_wp2
    go_ret
    exact ⟨rfl, HBL0.out⟩
  have fl : farB lo = false := by simpa using fl
  have fh : farB 0 = false := by decide
  by_cases hl0 : lo < 0
  · have e4 : decide (lo < 0) = true := by simpa using hl0
    obtain rfl := ck_no HR.out (fun h => by have := ((ckI _ _ _ _ _).1 h).2.1; omega)
    have k0 := far_any lo W0 false fl
    have k1 := far_any 0 W0 false fh
    go_wp2_with fail
    clear hW0
    refine k0.mono ?_
    rintro e W0 ⟨rfl, rfl⟩
    clear k0
    go_wp2_with fail
    refine k1.mono ?_
    rintro e W0 ⟨rfl, rfl⟩
    clear k1
    go_wp2
    go_ret
    exact ⟨rfl, HBL0.out⟩
  have e4 : decide (lo < 0) = false := by simpa using hl0
  by_cases hc : c = []
  rotate_left
  · have nq1 := neqs c [] true (by simpa using hc)
    have nq2 : (c != []) = true := by simpa [bne] using hc
    have nq3 : List.isEmpty c = false := by cases c with | nil => exact absurd rfl hc | cons a r => rfl
    obtain rfl := ck_no HR.out (fun h => hc (by have := ((ckI _ _ _ _ _).1 h).2.2.2.2.1; simpa using this))
    have k0 := far_any lo W0 false fl
    have k1 := far_any 0 W0 false fh
    go_wp2_with fail
    clear hW0
    refine k0.mono ?_
    rintro e W0 ⟨rfl, rfl⟩
    clear k0
    go_wp2_with fail
    refine k1.mono ?_
    rintro e W0 ⟨rfl, rfl⟩
    clear k1
    go_wp2
    go_ret
    exact ⟨rfl, HBL0.out⟩
  subst hc
  by_cases hw : 0 < wl
  · have e5 : (0 : Int) < (wl : Int) := by omega
    obtain rfl := ck_no HR.out (fun h => by have := ((ckI _ _ _ _ _).1 h).2.2.2.1; have h2 := HWL.out; omega)
    have k0 := far_any lo W0 false fl
    have k1 := far_any 0 W0 false fh
    go_wp2_with fail
    clear hW0
    refine k0.mono ?_
    rintro e W0 ⟨rfl, rfl⟩
    clear k0
    go_wp2_with fail
    refine k1.mono ?_
    rintro e W0 ⟨rfl, rfl⟩
    clear k1
    go_wp2
    go_ret
    exact ⟨rfl, HBL0.out⟩
  obtain rfl : wl = 0 := by omega
  have k0 := far_any lo W0 false fl
  have k1 := far_any 0 W0 false fh
  go_wp2_with fail
  clear hW0
  refine k0.mono ?_
  rintro e W0 ⟨rfl, rfl⟩
  clear k0
  go_wp2_with fail
  refine k1.mono ?_
  rintro e W0 ⟨rfl, rfl⟩
  clear k1
  obtain ⟨wt, hwt⟩ : ∃ wt, W0 = wt := ⟨_, rfl⟩
  subst hwt
  have HBT : Hid (Below w.heap.size w W0) := HBL0
  have HXT := HB0
  go_wp2
  go_loopw [109] (fun iv wr => ∃ i : Nat, iv = .int .i64 (i : Int) ∧ i ≤ 0 ∧ Hid ((wh.take i).all tsB = true) ∧ Below W0.heap.size W0 wr) (fun iv _ => 0 - (intOf iv).toNat)
  case atStart => exact ⟨0, rfl, Nat.zero_le _, by simp [Hid], Below.refl _ _⟩
  case round =>
    obtain ⟨i, rfl, hil, HA, hbl⟩ := hrel
    by_cases c9 : i < 0
    · exact absurd c9 (by omega)
    have c9n : ¬ (i : Int) < 0 := by omega
    have HAL : Hid (wh.all tsB = true) := by have := HA.out; rwa [List.take_of_length_le (by rw [HWL.out]; omega)] at this
    have HBR : Hid (Below w.heap.size w wr) := bt HBT.out hbl
    have HXR : Hid (Bx wr w.heap.size _) := HXT.out.at hbl
    have z5 := (HXR.out 5 _ rfl).c
    clear hbl HA
    obtain ⟨wt, hwt⟩ : ∃ wt : World, wt = wr := ⟨_, rfl⟩
    subst hwt
    go_wp2
    go_loopw [136] (fun jv wr => ∃ j : Nat, jv = .int .i64 (j : Int) ∧ j ≤ n ∧ Hid ((1 ≤ j → ckB x = true) ∧ (2 ≤ j → ckB y = true)) ∧ Below wt.heap.size wt wr) (fun jv _ => n - (intOf jv).toNat)
    case atStart => exact ⟨0, rfl, Nat.zero_le _, ⟨fun h => by omega, fun h => by omega⟩, Below.refl _ _⟩
    case round =>
      obtain ⟨j, rfl, hjn, HJ, hbk⟩ := hrel
      by_cases c10 : j < n
      · obtain ⟨kb, ko, rfl, hkb, ⟨xs, hxq, hxc⟩, hyy⟩ := HKI.out (by omega) (by have := HNE.out; omega)
        obtain ⟨q, qs, hq, hqc, hqk, hqf, hqt⟩ : ∃ (q : Qu) (qs : List Value), QI w B q qs ∧ (∀ (k : Nat) u, qs[k]? = some u → w.cell? ⟨kb, ko + j * 6 + k, none⟩ = some u) ∧ (∀ (w : World) (cs : List Value), B ≤ w.heap.size → QI w B q cs → Calls Tryz.prog 17 #[.agg cs.toArray] w (SaP w (ckB q))) ∧ (ckB q = false → ckB (.node 9 [] lo 0 wh n x y) = true → False) ∧ (ckB q = true → (1 ≤ j + 1 → ckB x = true) ∧ (2 ≤ j + 1 → ckB y = true)) := by
          by_cases hj : j = 0
          · subst hj
            exact ⟨x, xs, hxq, by intro k u hu; have := hxc k u hu; simpa using this, HIX.out, fun hf h => (by have := ((ckI _ _ _ _ _).1 h).2.2.2.2.2.2.1; rw [if_pos (by omega), hf] at this; cases this), fun ht => ⟨fun _ => ht, fun h => by omega⟩⟩
          · obtain rfl : j = 1 := by have := HNE.out; omega
            obtain ⟨ys, hyq, hyc⟩ := hyy (by omega)
            exact ⟨y, ys, hyq, by intro k u hu; have := hyc k u hu; simpa using this, HIY.out, fun hf h => (by have := ((ckI _ _ _ _ _).1 h).2.2.2.2.2.2.2; rw [if_pos (by omega), hf] at this; cases this), fun ht => ⟨fun _ => HJ.out.1 (by omega), fun _ => ht⟩⟩
        have hBK : Below w.heap.size w wr := bt HBR.out hbk
        have HQ : Hid (QI w B q qs) := hq
        clear hxq hxc hyy
        obtain ⟨kd2, c2, lo2, hi2, wa2, wn2, wc2, ka2, kn2, kc2, rfl⟩ := hq.six
        have r0 : wr.cell? ⟨kb, ko + j * 6, none⟩ = some (.int .i64 kd2) := (hBK.cell (p := ⟨kb, ko + j * 6, none⟩) (by dsimp only; omega)).trans (hqc 0 _ rfl)
        have r1 : wr.cell? ⟨kb, ko + j * 6 + 1, none⟩ = some (.string (tx c2)) := (hBK.cell (p := ⟨kb, ko + j * 6 + 1, none⟩) (by dsimp only; omega)).trans (hqc 1 _ rfl)
        have r2 : wr.cell? ⟨kb, ko + j * 6 + 2, none⟩ = some (.int .i64 lo2) := (hBK.cell (p := ⟨kb, ko + j * 6 + 2, none⟩) (by dsimp only; omega)).trans (hqc 2 _ rfl)
        have r3 : wr.cell? ⟨kb, ko + j * 6 + 3, none⟩ = some (.int .i64 hi2) := (hBK.cell (p := ⟨kb, ko + j * 6 + 3, none⟩) (by dsimp only; omega)).trans (hqc 3 _ rfl)
        have r4 : wr.cell? ⟨kb, ko + j * 6 + 4, none⟩ = some (.slice wa2 wn2 wc2) := (hBK.cell (p := ⟨kb, ko + j * 6 + 4, none⟩) (by dsimp only; omega)).trans (hqc 4 _ rfl)
        have r5 : wr.cell? ⟨kb, ko + j * 6 + 5, none⟩ = some (.slice ka2 kn2 kc2) := (hBK.cell (p := ⟨kb, ko + j * 6 + 5, none⟩) (by dsimp only; omega)).trans (hqc 5 _ rfl)
        have c10i : (j : Int) < 1 := by omega
        have c10k : (j : Int) < (kc : Int) := by omega
        obtain ⟨W6, hW6⟩ : ∃ W6, wr.alloc (.cells #[.int .i64 kd2, .string (tx c2), .int .i64 lo2, .int .i64 hi2, .slice wa2 wn2 wc2, .slice ka2 kn2 kc2] 25) = W6 := ⟨_, rfl⟩
        have HB6 : Hid (Below wr.heap.size wr W6) := hW6 ▸ ba _ _
        have HX6 : Hid (Bx W6 wr.heap.size [.int .i64 kd2, .string (tx c2), .int .i64 lo2, .int .i64 hi2, .slice wa2 wn2 wc2, .slice ka2 kn2 kc2]) := hW6 ▸ Bx.new wr [.int .i64 kd2, .string (tx c2), .int .i64 lo2, .int .i64 hi2, .slice wa2 wn2 wc2, .slice ka2 kn2 kc2] 25 rfl
        have HBX : Hid (Below w.heap.size w W6) := bt hBK HB6.out
        have u0 := (HX6.out 0 _ rfl).c
        have u1 := (HX6.out 1 _ rfl).c
        have u2 := (HX6.out 2 _ rfl).c
        have u3 := (HX6.out 3 _ rfl).c
        have u4 := (HX6.out 4 _ rfl).c
        have u5 := (HX6.out 5 _ rfl).c
        obtain ⟨rq, hrq⟩ : ∃ rq, ckB q = rq := ⟨_, rfl⟩
        have kq := hqk W6 _ (Nat.le_trans hB HBX.out.size) (QI.keep (HBX.out.mono hB) _ HQ.out)
        rw [hrq] at kq hqf hqt
        have HQF : Hid (rq = false → ckB (.node 9 [] lo 0 wh n x y) = true → False) := hqf
        have HQT : Hid (rq = true → (1 ≤ j + 1 → ckB x = true) ∧ (2 ≤ j + 1 → ckB y = true)) := hqt
        clear hqc hqk hrq hqf hqt
        go_wp2_with fail
        clear hW6
        refine kq.mono ?_
        rintro e W7 ⟨rfl, hb7⟩
        have HB7 : Hid (Below w.heap.size w W7) := bt HBX.out hb7
        have HB8 : Hid (Below wt.heap.size wt W7) := bt (bt hbk HB6.out) hb7
        clear kq hb7
        cases rq with
        | false =>
          obtain rfl := ck_no HR.out (HQF.out rfl)
          go_wp2
          go_ret
          exact ⟨rfl, HB7.out⟩
        | true =>
          have HT2 := HQT.out rfl
          have HT3 : Hid ((1 ≤ j + 1 → ckB x = true) ∧ (2 ≤ j + 1 → ckB y = true)) := HT2
          clear HT2
          go_wp2
          go_roundw
          case rel => exact ⟨j + 1, by go_num, c10, HT3, HB8.out⟩
          case measure => simp [intOf]; omega
      obtain rfl : j = n := by omega
      obtain rfl : true = r := by
        rw [← HR.out]
        exact ((ckI _ _ _ _ _).2 ⟨by omega, by simp [farB] at fl; omega, by omega, by have h2 := HWL.out; omega, by simp, HAL.out, by rw [if_pos (by have := HNE.out; omega)]; exact HJ.out.1 (by have := HNE.out; omega), by rw [if_neg (by have := HNE.out; omega)]⟩).symm
      go_wp2
      go_ret
      exact ⟨rfl, bt HBR.out hbk⟩
end Go.Proofs.YtidfkencjdjkbaaGreatDoor

/-
  The document's own answer, chapter 15, Print: may a question be said?
-/
namespace Go.Proofs.YtidfkencjdjkbaaGreatDoor
open Go.RowKit Sp

set_option maxHeartbeats 4000000 in
set_option maxRecDepth 100000 in
theorem say10 (c : By) (lo hi : Int) (wh : List Tst) (n : Nat) (x y : Qu) (w : World) (B : Nat) (cs : List Value) (hB : B ≤ w.heap.size) (h : QI w B (.node 10 c lo hi wh n x y) cs) (hIX : ∀ (w : World) (cs : List Value), B ≤ w.heap.size → QI w B x cs → Calls Tryz.prog 17 #[.agg cs.toArray] w (SaP w (ckB x))) (hIY : ∀ (w : World) (cs : List Value), B ≤ w.heap.size → QI w B y cs → Calls Tryz.prog 17 #[.agg cs.toArray] w (SaP w (ckB y))) : Calls Tryz.prog 17 #[.agg cs.toArray] w (SaP w (ckB (.node 10 c lo hi wh n x y))) := by
  have hs : shpT 10 = some (1, false, -1048576, 1048576, 1048576, 0) := rfl
  have ckI : ∀ (c : By) (lo hi : Int) (wh : List Tst) (n : Nat), ckB (.node 10 c lo hi wh n x y) = true ↔ (n : Int) = 1 ∧ ((-1048576 : Int) ≤ lo ∧ lo ≤ 1048576) ∧ ((-1048576 : Int) ≤ hi ∧ hi ≤ 1048576) ∧ (wh.length : Int) ≤ 0 ∧ (if false = true then nmd c else decide (c = [])) = true ∧ wh.all tsB = true ∧ (if 1 ≤ n then ckB x else true) = true ∧ (if 2 ≤ n then ckB y else true) = true := fun c lo hi wh n => ck_iff hs
  obtain ⟨wv, ka, kc, rfl, hTI, hnk, hn63, hc60, hk64, hl64, hh64, hx0, hy0, hkids⟩ := h
  have HTI : Hid (TI w B wh wv) := hTI
  obtain ⟨wa, wc, rfl, hwc, hw63, _, _⟩ := hTI
  obtain ⟨wl, hwl⟩ : ∃ wl, wh.length = wl := ⟨_, rfl⟩
  have HWL : Hid (wh.length = wl) := hwl
  rw [hwl] at hwc hw63 HTI ⊢
  clear hwl
  have HKI : Hid (1 ≤ n → n ≤ 2 → ∃ b o, ka = some ⟨b, o, none⟩ ∧ b < B ∧ (∃ xs, QI w B x xs ∧ ∀ (j : Nat) u, xs[j]? = some u → w.cell? ⟨b, o + j, none⟩ = some u) ∧ (2 ≤ n → ∃ ys, QI w B y ys ∧ ∀ (j : Nat) u, ys[j]? = some u → w.cell? ⟨b, o + 6 + j, none⟩ = some u)) := hkids
  have HIX : Hid _ := hIX
  have HIY : Hid _ := hIY
  obtain ⟨W0, hW0⟩ : ∃ W0, w.alloc (.cells #[.int .i64 10, .string (tx c), .int .i64 lo, .int .i64 hi, .slice wa wl wc, .slice ka n kc] 25) = W0 := ⟨_, rfl⟩
  have HBL0 : Hid (Below w.heap.size w W0) := hW0 ▸ ba _ _
  have HB0 : Hid (Bx W0 w.heap.size [.int .i64 10, .string (tx c), .int .i64 lo, .int .i64 hi, .slice wa wl wc, .slice ka n kc]) := hW0 ▸ Bx.new w [.int .i64 10, .string (tx c), .int .i64 lo, .int .i64 hi, .slice wa wl wc, .slice ka n kc] 25 rfl
  have z0 := (HB0.out 0 _ rfl).c
  have z1 := (HB0.out 1 _ rfl).c
  have z2 := (HB0.out 2 _ rfl).c
  have z3 := (HB0.out 3 _ rfl).c
  have z4 := (HB0.out 4 _ rfl).c
  have z5 := (HB0.out 5 _ rfl).c
  obtain ⟨r, hr⟩ : ∃ r, ckB (.node 10 c lo hi wh n x y) = r := ⟨_, rfl⟩
  have HR : Hid (ckB (.node 10 c lo hi wh n x y) = r) := hr
  rw [hr]
  clear hkids hx0 hy0 hr hIX hIY hk64
  go_enter Tryz.func17, Tryz.ntmps17
  by_cases hn : n = 1
  rotate_left
  · have e1 : ¬ (n : Int) = 1 := by omega
    have e2 : ((n : Int) == 1) = false := by simpa using e1
    have e3 : ((n : Int) != 1) = true := by simpa using e1
    obtain rfl := ck_no HR.out (fun h => hn (by have := ((ckI _ _ _ _ _).1 h).1; omega))
    go_wp2
    clear hW0
    go_ret
    exact ⟨rfl, HBL0.out⟩
  have hnI : (n : Int) = 1 := by omega
  have HNE : Hid (n = 1) := hn
  clear hn
  by_cases fl : farB lo = true
  · obtain rfl := ck_no HR.out (fun h => by have := ((ckI _ _ _ _ _).1 h).2.1; simp [farB] at fl; omega)
    have k0 := far_any lo W0 true fl
    go_wp2_with fail
    clear hW0
    refine k0.mono ?_
    rintro e W0 ⟨rfl, rfl⟩
    clear k0
    go_wp2
    go_ret
    exact ⟨rfl, HBL0.out⟩
  have fl : farB lo = false := by simpa using fl
  by_cases fh : farB hi = true
  · obtain rfl := ck_no HR.out (fun h => by have := ((ckI _ _ _ _ _).1 h).2.2.1; simp [farB] at fh; omega)
    have k0 := far_any lo W0 false fl
    have k1 := far_any hi W0 true fh
    go_wp2_with fail
    clear hW0
    refine k0.mono ?_
    rintro e W0 ⟨rfl, rfl⟩
    clear k0
    go_wp2_with fail
    refine k1.mono ?_
    rintro e W0 ⟨rfl, rfl⟩
    clear k1
    go_wp2
    go_ret
    exact ⟨rfl, HBL0.out⟩
  have fh : farB hi = false := by simpa using fh
  by_cases hc : c = []
  rotate_left
  · have nq1 := neqs c [] true (by simpa using hc)
    have nq2 : (c != []) = true := by simpa [bne] using hc
    have nq3 : List.isEmpty c = false := by cases c with | nil => exact absurd rfl hc | cons a r => rfl
    obtain rfl := ck_no HR.out (fun h => hc (by have := ((ckI _ _ _ _ _).1 h).2.2.2.2.1; simpa using this))
    have k0 := far_any lo W0 false fl
    have k1 := far_any hi W0 false fh
    go_wp2_with fail
    clear hW0
    refine k0.mono ?_
    rintro e W0 ⟨rfl, rfl⟩
    clear k0
    go_wp2_with fail
    refine k1.mono ?_
    rintro e W0 ⟨rfl, rfl⟩
    clear k1
    go_wp2
    go_ret
    exact ⟨rfl, HBL0.out⟩
  subst hc
  by_cases hw : 0 < wl
  · have e5 : (0 : Int) < (wl : Int) := by omega
    obtain rfl := ck_no HR.out (fun h => by have := ((ckI _ _ _ _ _).1 h).2.2.2.1; have h2 := HWL.out; omega)
    have k0 := far_any lo W0 false fl
    have k1 := far_any hi W0 false fh
    go_wp2_with fail
    clear hW0
    refine k0.mono ?_
    rintro e W0 ⟨rfl, rfl⟩
    clear k0
    go_wp2_with fail
    refine k1.mono ?_
    rintro e W0 ⟨rfl, rfl⟩
    clear k1
    go_wp2
    go_ret
    exact ⟨rfl, HBL0.out⟩
  obtain rfl : wl = 0 := by omega
  have k0 := far_any lo W0 false fl
  have k1 := far_any hi W0 false fh
  go_wp2_with fail
  clear hW0
  refine k0.mono ?_
  rintro e W0 ⟨rfl, rfl⟩
  clear k0
  go_wp2_with fail
  refine k1.mono ?_
  rintro e W0 ⟨rfl, rfl⟩
  clear k1
  obtain ⟨wt, hwt⟩ : ∃ wt, W0 = wt := ⟨_, rfl⟩
  subst hwt
  have HBT : Hid (Below w.heap.size w W0) := HBL0
  have HXT := HB0
  go_wp2
  go_loopw [109] (fun iv wr => ∃ i : Nat, iv = .int .i64 (i : Int) ∧ i ≤ 0 ∧ Hid ((wh.take i).all tsB = true) ∧ Below W0.heap.size W0 wr) (fun iv _ => 0 - (intOf iv).toNat)
  case atStart => exact ⟨0, rfl, Nat.zero_le _, by simp [Hid], Below.refl _ _⟩
  case round =>
    obtain ⟨i, rfl, hil, HA, hbl⟩ := hrel
    by_cases c9 : i < 0
    · exact absurd c9 (by omega)
    have c9n : ¬ (i : Int) < 0 := by omega
    have HAL : Hid (wh.all tsB = true) := by have := HA.out; rwa [List.take_of_length_le (by rw [HWL.out]; omega)] at this
    have HBR : Hid (Below w.heap.size w wr) := bt HBT.out hbl
    have HXR : Hid (Bx wr w.heap.size _) := HXT.out.at hbl
    have z5 := (HXR.out 5 _ rfl).c
    clear hbl HA
    obtain ⟨wt, hwt⟩ : ∃ wt : World, wt = wr := ⟨_, rfl⟩
    subst hwt
    go_wp2
    go_loopw [136] (fun jv wr => ∃ j : Nat, jv = .int .i64 (j : Int) ∧ j ≤ n ∧ Hid ((1 ≤ j → ckB x = true) ∧ (2 ≤ j → ckB y = true)) ∧ Below wt.heap.size wt wr) (fun jv _ => n - (intOf jv).toNat)
    case atStart => exact ⟨0, rfl, Nat.zero_le _, ⟨fun h => by omega, fun h => by omega⟩, Below.refl _ _⟩
    case round =>
      obtain ⟨j, rfl, hjn, HJ, hbk⟩ := hrel
      by_cases c10 : j < n
      · obtain ⟨kb, ko, rfl, hkb, ⟨xs, hxq, hxc⟩, hyy⟩ := HKI.out (by omega) (by have := HNE.out; omega)
        obtain ⟨q, qs, hq, hqc, hqk, hqf, hqt⟩ : ∃ (q : Qu) (qs : List Value), QI w B q qs ∧ (∀ (k : Nat) u, qs[k]? = some u → w.cell? ⟨kb, ko + j * 6 + k, none⟩ = some u) ∧ (∀ (w : World) (cs : List Value), B ≤ w.heap.size → QI w B q cs → Calls Tryz.prog 17 #[.agg cs.toArray] w (SaP w (ckB q))) ∧ (ckB q = false → ckB (.node 10 [] lo hi wh n x y) = true → False) ∧ (ckB q = true → (1 ≤ j + 1 → ckB x = true) ∧ (2 ≤ j + 1 → ckB y = true)) := by
          by_cases hj : j = 0
          · subst hj
            exact ⟨x, xs, hxq, by intro k u hu; have := hxc k u hu; simpa using this, HIX.out, fun hf h => (by have := ((ckI _ _ _ _ _).1 h).2.2.2.2.2.2.1; rw [if_pos (by omega), hf] at this; cases this), fun ht => ⟨fun _ => ht, fun h => by omega⟩⟩
          · obtain rfl : j = 1 := by have := HNE.out; omega
            obtain ⟨ys, hyq, hyc⟩ := hyy (by omega)
            exact ⟨y, ys, hyq, by intro k u hu; have := hyc k u hu; simpa using this, HIY.out, fun hf h => (by have := ((ckI _ _ _ _ _).1 h).2.2.2.2.2.2.2; rw [if_pos (by omega), hf] at this; cases this), fun ht => ⟨fun _ => HJ.out.1 (by omega), fun _ => ht⟩⟩
        have hBK : Below w.heap.size w wr := bt HBR.out hbk
        have HQ : Hid (QI w B q qs) := hq
        clear hxq hxc hyy
        obtain ⟨kd2, c2, lo2, hi2, wa2, wn2, wc2, ka2, kn2, kc2, rfl⟩ := hq.six
        have r0 : wr.cell? ⟨kb, ko + j * 6, none⟩ = some (.int .i64 kd2) := (hBK.cell (p := ⟨kb, ko + j * 6, none⟩) (by dsimp only; omega)).trans (hqc 0 _ rfl)
        have r1 : wr.cell? ⟨kb, ko + j * 6 + 1, none⟩ = some (.string (tx c2)) := (hBK.cell (p := ⟨kb, ko + j * 6 + 1, none⟩) (by dsimp only; omega)).trans (hqc 1 _ rfl)
        have r2 : wr.cell? ⟨kb, ko + j * 6 + 2, none⟩ = some (.int .i64 lo2) := (hBK.cell (p := ⟨kb, ko + j * 6 + 2, none⟩) (by dsimp only; omega)).trans (hqc 2 _ rfl)
        have r3 : wr.cell? ⟨kb, ko + j * 6 + 3, none⟩ = some (.int .i64 hi2) := (hBK.cell (p := ⟨kb, ko + j * 6 + 3, none⟩) (by dsimp only; omega)).trans (hqc 3 _ rfl)
        have r4 : wr.cell? ⟨kb, ko + j * 6 + 4, none⟩ = some (.slice wa2 wn2 wc2) := (hBK.cell (p := ⟨kb, ko + j * 6 + 4, none⟩) (by dsimp only; omega)).trans (hqc 4 _ rfl)
        have r5 : wr.cell? ⟨kb, ko + j * 6 + 5, none⟩ = some (.slice ka2 kn2 kc2) := (hBK.cell (p := ⟨kb, ko + j * 6 + 5, none⟩) (by dsimp only; omega)).trans (hqc 5 _ rfl)
        have c10i : (j : Int) < 1 := by omega
        have c10k : (j : Int) < (kc : Int) := by omega
        obtain ⟨W6, hW6⟩ : ∃ W6, wr.alloc (.cells #[.int .i64 kd2, .string (tx c2), .int .i64 lo2, .int .i64 hi2, .slice wa2 wn2 wc2, .slice ka2 kn2 kc2] 25) = W6 := ⟨_, rfl⟩
        have HB6 : Hid (Below wr.heap.size wr W6) := hW6 ▸ ba _ _
        have HX6 : Hid (Bx W6 wr.heap.size [.int .i64 kd2, .string (tx c2), .int .i64 lo2, .int .i64 hi2, .slice wa2 wn2 wc2, .slice ka2 kn2 kc2]) := hW6 ▸ Bx.new wr [.int .i64 kd2, .string (tx c2), .int .i64 lo2, .int .i64 hi2, .slice wa2 wn2 wc2, .slice ka2 kn2 kc2] 25 rfl
        have HBX : Hid (Below w.heap.size w W6) := bt hBK HB6.out
        have u0 := (HX6.out 0 _ rfl).c
        have u1 := (HX6.out 1 _ rfl).c
        have u2 := (HX6.out 2 _ rfl).c
        have u3 := (HX6.out 3 _ rfl).c
        have u4 := (HX6.out 4 _ rfl).c
        have u5 := (HX6.out 5 _ rfl).c
        obtain ⟨rq, hrq⟩ : ∃ rq, ckB q = rq := ⟨_, rfl⟩
        have kq := hqk W6 _ (Nat.le_trans hB HBX.out.size) (QI.keep (HBX.out.mono hB) _ HQ.out)
        rw [hrq] at kq hqf hqt
        have HQF : Hid (rq = false → ckB (.node 10 [] lo hi wh n x y) = true → False) := hqf
        have HQT : Hid (rq = true → (1 ≤ j + 1 → ckB x = true) ∧ (2 ≤ j + 1 → ckB y = true)) := hqt
        clear hqc hqk hrq hqf hqt
        go_wp2_with fail
        clear hW6
        refine kq.mono ?_
        rintro e W7 ⟨rfl, hb7⟩
        have HB7 : Hid (Below w.heap.size w W7) := bt HBX.out hb7
        have HB8 : Hid (Below wt.heap.size wt W7) := bt (bt hbk HB6.out) hb7
        clear kq hb7
        cases rq with
        | false =>
          obtain rfl := ck_no HR.out (HQF.out rfl)
          go_wp2
          go_ret
          exact ⟨rfl, HB7.out⟩
        | true =>
          have HT2 := HQT.out rfl
          have HT3 : Hid ((1 ≤ j + 1 → ckB x = true) ∧ (2 ≤ j + 1 → ckB y = true)) := HT2
          clear HT2
          go_wp2
          go_roundw
          case rel => exact ⟨j + 1, by go_num, c10, HT3, HB8.out⟩
          case measure => simp [intOf]; omega
      obtain rfl : j = n := by omega
      obtain rfl : true = r := by
        rw [← HR.out]
        exact ((ckI _ _ _ _ _).2 ⟨by omega, by simp [farB] at fl; omega, by simp [farB] at fh; omega, by have h2 := HWL.out; omega, by simp, HAL.out, by rw [if_pos (by have := HNE.out; omega)]; exact HJ.out.1 (by have := HNE.out; omega), by rw [if_neg (by have := HNE.out; omega)]⟩).symm
      go_wp2
      go_ret
      exact ⟨rfl, bt HBR.out hbk⟩
end Go.Proofs.YtidfkencjdjkbaaGreatDoor

/-
  The document's own answer, chapter 15, Print: may a question be said? Sayable.
-/
namespace Go.Proofs.YtidfkencjdjkbaaGreatDoor
open Go.RowKit Sp

set_option maxHeartbeats 4000000 in
set_option maxRecDepth 100000 in
theorem say_oth (kd : Int) (c : By) (lo hi : Int) (wh : List Tst) (n : Nat) (x y : Qu) (w : World) (B : Nat) (cs : List Value) (h : QI w B (.node kd c lo hi wh n x y) cs) (hk : ∀ i : Int, 1 ≤ i → i ≤ 10 → kd ≠ i) : Calls Tryz.prog 17 #[.agg cs.toArray] w (SaP w (ckB (.node kd c lo hi wh n x y))) := by
  obtain ⟨wv, ka, kc, rfl, hTI, hnk, hn63, hc60, hk64, hl64, hh64, hx0, hy0, hkids⟩ := h
  obtain ⟨wa, wc, rfl, hwc, hw63, _, _⟩ := hTI
  obtain ⟨wl, hwl⟩ : ∃ wl, wh.length = wl := ⟨_, rfl⟩
  rw [hwl]
  have HR : Hid (ckB (.node kd c lo hi wh n x y) = false) := by
    have : shpT kd = none := by
      simp only [shpT]
      rw [if_neg (hk 1 (by decide) (by decide)), if_neg (hk 2 (by decide) (by decide)), if_neg (hk 3 (by decide) (by decide)), if_neg (by have h4 := hk 4 (by decide) (by decide); have h5 := hk 5 (by decide) (by decide); have h7 := hk 7 (by decide) (by decide); omega), if_neg (hk 6 (by decide) (by decide)), if_neg (hk 8 (by decide) (by decide)), if_neg (hk 9 (by decide) (by decide)), if_neg (hk 10 (by decide) (by decide))]
    rw [Hid, ckB, this]
  have n1 : ¬ kd = 1 := hk 1 (by decide) (by decide)
  have e1 : (kd == 1) = false := by simpa using n1
  have n2 : ¬ kd = 2 := hk 2 (by decide) (by decide)
  have e2 : (kd == 2) = false := by simpa using n2
  have n3 : ¬ kd = 3 := hk 3 (by decide) (by decide)
  have e3 : (kd == 3) = false := by simpa using n3
  have n4 : ¬ kd = 4 := hk 4 (by decide) (by decide)
  have e4 : (kd == 4) = false := by simpa using n4
  have n5 : ¬ kd = 5 := hk 5 (by decide) (by decide)
  have e5 : (kd == 5) = false := by simpa using n5
  have n6 : ¬ kd = 6 := hk 6 (by decide) (by decide)
  have e6 : (kd == 6) = false := by simpa using n6
  have n7 : ¬ kd = 7 := hk 7 (by decide) (by decide)
  have e7 : (kd == 7) = false := by simpa using n7
  have n8 : ¬ kd = 8 := hk 8 (by decide) (by decide)
  have e8 : (kd == 8) = false := by simpa using n8
  have n9 : ¬ kd = 9 := hk 9 (by decide) (by decide)
  have e9 : (kd == 9) = false := by simpa using n9
  have n10 : ¬ kd = 10 := hk 10 (by decide) (by decide)
  have e10 : (kd == 10) = false := by simpa using n10
  obtain ⟨W0, hW0⟩ : ∃ W0, w.alloc (.cells #[.int .i64 kd, .string (tx c), .int .i64 lo, .int .i64 hi, .slice wa wl wc, .slice ka n kc] 25) = W0 := ⟨_, rfl⟩
  have HBL0 : Hid (Below w.heap.size w W0) := hW0 ▸ ba _ _
  have HB0 : Hid (Bx W0 w.heap.size [.int .i64 kd, .string (tx c), .int .i64 lo, .int .i64 hi, .slice wa wl wc, .slice ka n kc]) := hW0 ▸ Bx.new w [.int .i64 kd, .string (tx c), .int .i64 lo, .int .i64 hi, .slice wa wl wc, .slice ka n kc] 25 rfl
  have z0 := (HB0.out 0 _ rfl).c
  rw [HR.out]
  clear hk hkids hx0 hy0 hwl
  go_enter Tryz.func17, Tryz.ntmps17
  go_wp2
  clear hW0
  go_ret
  exact ⟨rfl, HBL0.out⟩
/-- SAYABLE -/
theorem sayb_any : ∀ (q : Qu) (w : World) (B : Nat) (cs : List Value), B ≤ w.heap.size → QI w B q cs → Calls Tryz.prog 17 #[.agg cs.toArray] w (SaP w (ckB q))
  | .none, _, _, _, _, h => h.elim
  | .node kd c lo hi wh n x y, w, B, cs, hB, h => by
    have hX : ∀ (w : World) (cs : List Value), B ≤ w.heap.size → QI w B x cs → Calls Tryz.prog 17 #[.agg cs.toArray] w (SaP w (ckB x)) := fun w cs => sayb_any x w B cs
    have hY : ∀ (w : World) (cs : List Value), B ≤ w.heap.size → QI w B y cs → Calls Tryz.prog 17 #[.agg cs.toArray] w (SaP w (ckB y)) := fun w cs => sayb_any y w B cs
    by_cases h1 : kd = 1
    · subst h1
      exact say1 c lo hi wh n x y w B cs hB h hX hY
    by_cases h2 : kd = 2
    · subst h2
      exact say2 c lo hi wh n x y w B cs hB h hX hY
    by_cases h3 : kd = 3
    · subst h3
      exact say3 c lo hi wh n x y w B cs hB h hX hY
    by_cases h4 : kd = 4
    · subst h4
      exact say4 c lo hi wh n x y w B cs hB h hX hY
    by_cases h5 : kd = 5
    · subst h5
      exact say5 c lo hi wh n x y w B cs hB h hX hY
    by_cases h6 : kd = 6
    · subst h6
      exact say6 c lo hi wh n x y w B cs hB h hX hY
    by_cases h7 : kd = 7
    · subst h7
      exact say7 c lo hi wh n x y w B cs hB h hX hY
    by_cases h8 : kd = 8
    · subst h8
      exact say8 c lo hi wh n x y w B cs hB h hX hY
    by_cases h9 : kd = 9
    · subst h9
      exact say9 c lo hi wh n x y w B cs hB h hX hY
    by_cases h10 : kd = 10
    · subst h10
      exact say10 c lo hi wh n x y w B cs hB h hX hY
    exact say_oth kd c lo hi wh n x y w B cs h (fun i hi1 hi2 e => by omega)
end Go.Proofs.YtidfkencjdjkbaaGreatDoor
