import Derived.Test.YtidfkencjdjkbaaGreatDoorQn28
import Derived.Test.YtidfkencjdjkbaaGreatDoorQn29
/-
  The document's own answer, chapter 15, Print: may a question be said?
-/
namespace Go.Proofs.YtidfkencjdjkbaaGreatDoor
open Go.RowKit Sp

def SaP (w : World) (r : Bool) (e : Ending) (w' : World) : Prop := e = .returned (.bool r) ∧ Below w.heap.size w w'
theorem neqs (x t : By) (b : Bool) (h : (!decide (x = t)) = b) (u : World) : (binOp .neq 9 (.string (tx x)) (.string (tx t))).run Tryz.prog u = .ok (.bool b) u := by
  subst h
  simp only [binOp, Op.stringOp]
  simp [by_beq]
theorem ck_iff {k : Int} {s : Shp} (hs : shpT k = some s) {c : By} {lo hi : Int} {wh : List Tst} {n : Nat} {x y : Qu} : ckB (.node k c lo hi wh n x y) = true ↔ (n : Int) = s.1 ∧ (s.2.2.1 ≤ lo ∧ lo ≤ s.2.2.2.1) ∧ (-s.2.2.2.2.1 ≤ hi ∧ hi ≤ s.2.2.2.2.1) ∧ (wh.length : Int) ≤ s.2.2.2.2.2 ∧ (if s.2.1 then nmd c else decide (c = [])) = true ∧ wh.all tsB = true ∧ (if 1 ≤ n then ckB x else true) = true ∧ (if 2 ≤ n then ckB y else true) = true := by
  rw [ckB, hs]
  simp only [Bool.and_eq_true, decide_eq_true_eq]
  constructor
  · rintro ⟨⟨⟨⟨⟨⟨⟨h1, h2⟩, h3⟩, h4⟩, h5⟩, h6⟩, h7⟩, h8⟩
    exact ⟨h1, h2, h3, h4, h5, h6, h7, h8⟩
  · rintro ⟨h1, h2, h3, h4, h5, h6, h7, h8⟩
    exact ⟨⟨⟨⟨⟨⟨⟨h1, h2⟩, h3⟩, h4⟩, h5⟩, h6⟩, h7⟩, h8⟩
theorem ck_no {q : Qu} {r : Bool} (h : ckB q = r) (hn : ckB q = true → False) : false = r := by
  cases r with
  | false => rfl
  | true => exact (hn h).elim
end Go.Proofs.YtidfkencjdjkbaaGreatDoor

/-
  The document's own answer, chapter 15, Print: may a question be said?
-/
namespace Go.Proofs.YtidfkencjdjkbaaGreatDoor
open Go.RowKit Sp

set_option maxHeartbeats 4000000 in
set_option maxRecDepth 100000 in
theorem say1 (c : By) (lo hi : Int) (wh : List Tst) (n : Nat) (x y : Qu) (w : World) (B : Nat) (cs : List Value) (hB : B ≤ w.heap.size) (h : QI w B (.node 1 c lo hi wh n x y) cs) (hIX : ∀ (w : World) (cs : List Value), B ≤ w.heap.size → QI w B x cs → Calls Tryz.prog 17 #[.agg cs.toArray] w (SaP w (ckB x))) (hIY : ∀ (w : World) (cs : List Value), B ≤ w.heap.size → QI w B y cs → Calls Tryz.prog 17 #[.agg cs.toArray] w (SaP w (ckB y))) : Calls Tryz.prog 17 #[.agg cs.toArray] w (SaP w (ckB (.node 1 c lo hi wh n x y))) := by
  have hs : shpT 1 = some (0, false, 0, 0, 0, 64) := rfl
  have ckI : ∀ (c : By) (lo hi : Int) (wh : List Tst) (n : Nat), ckB (.node 1 c lo hi wh n x y) = true ↔ (n : Int) = 0 ∧ ((0 : Int) ≤ lo ∧ lo ≤ 0) ∧ ((-0 : Int) ≤ hi ∧ hi ≤ 0) ∧ (wh.length : Int) ≤ 64 ∧ (if false = true then nmd c else decide (c = [])) = true ∧ wh.all tsB = true ∧ (if 1 ≤ n then ckB x else true) = true ∧ (if 2 ≤ n then ckB y else true) = true := fun c lo hi wh n => ck_iff hs
  obtain ⟨wv, ka, kc, rfl, hTI, hnk, hn63, hc60, hk64, hl64, hh64, hx0, hy0, hkids⟩ := h
  have HTI : Hid (TI w B wh wv) := hTI
  obtain ⟨wa, wc, rfl, hwc, hw63, _, _⟩ := hTI
  obtain ⟨wl, hwl⟩ : ∃ wl, wh.length = wl := ⟨_, rfl⟩
  have HWL : Hid (wh.length = wl) := hwl
  rw [hwl] at hwc hw63 HTI ⊢
  clear hwl
  have HKI : Hid (1 ≤ n → n ≤ 2 → ∃ b o, ka = some ⟨b, o, none⟩ ∧ b < B ∧ (∃ xs, QI w B x xs ∧ ∀ (j : Nat) u, xs[j]? = some u → w.cell? ⟨b, o + j, none⟩ = some u) ∧ (2 ≤ n → ∃ ys, QI w B y ys ∧ ∀ (j : Nat) u, ys[j]? = some u → w.cell? ⟨b, o + 6 + j, none⟩ = some u)) := hkids
  have HIX : Hid _ := hIX
  have HIY : Hid _ := hIY
  obtain ⟨W0, hW0⟩ : ∃ W0, w.alloc (.cells #[.int .i64 1, .string (tx c), .int .i64 lo, .int .i64 hi, .slice wa wl wc, .slice ka n kc] 25) = W0 := ⟨_, rfl⟩
  have HBL0 : Hid (Below w.heap.size w W0) := hW0 ▸ ba _ _
  have HB0 : Hid (Bx W0 w.heap.size [.int .i64 1, .string (tx c), .int .i64 lo, .int .i64 hi, .slice wa wl wc, .slice ka n kc]) := hW0 ▸ Bx.new w [.int .i64 1, .string (tx c), .int .i64 lo, .int .i64 hi, .slice wa wl wc, .slice ka n kc] 25 rfl
  have z0 := (HB0.out 0 _ rfl).c
  have z1 := (HB0.out 1 _ rfl).c
  have z2 := (HB0.out 2 _ rfl).c
  have z3 := (HB0.out 3 _ rfl).c
  have z4 := (HB0.out 4 _ rfl).c
  have z5 := (HB0.out 5 _ rfl).c
  obtain ⟨r, hr⟩ : ∃ r, ckB (.node 1 c lo hi wh n x y) = r := ⟨_, rfl⟩
  have HR : Hid (ckB (.node 1 c lo hi wh n x y) = r) := hr
  rw [hr]
  clear hkids hx0 hy0 hr hIX hIY hk64
  go_enter Tryz.func17, Tryz.ntmps17
  by_cases hn : n = 0
  rotate_left
  · have e1 : ¬ (n : Int) = 0 := by omega
    have e2 : ((n : Int) == 0) = false := by simpa using e1
    have e3 : ((n : Int) != 0) = true := by simpa using e1
    obtain rfl := ck_no HR.out (fun h => hn (by have := ((ckI _ _ _ _ _).1 h).1; omega))
    go_wp2
    clear hW0
    go_ret
    exact ⟨rfl, HBL0.out⟩
  subst hn
  by_cases hlo : lo = 0
  rotate_left
  · have e2 : (lo == 0) = false := by simpa using hlo
    have e3 : (lo != 0) = true := by simpa using hlo
    obtain rfl := ck_no HR.out (fun h => hlo (by have := ((ckI _ _ _ _ _).1 h).2.1; omega))
    go_wp2
    clear hW0
    go_ret
    exact ⟨rfl, HBL0.out⟩
  subst hlo
  by_cases hhi : hi = 0
  rotate_left
  · have e2 : (hi == 0) = false := by simpa using hhi
    have e3 : (hi != 0) = true := by simpa using hhi
    obtain rfl := ck_no HR.out (fun h => hhi (by have := ((ckI _ _ _ _ _).1 h).2.2.1; omega))
    go_wp2
    clear hW0
    go_ret
    exact ⟨rfl, HBL0.out⟩
  subst hhi
  have fl : farB 0 = false := by decide
  have fh : farB 0 = false := by decide
  by_cases hc : c = []
  rotate_left
  · have nq1 := neqs c [] true (by simpa using hc)
    have nq2 : (c != []) = true := by simpa [bne] using hc
    have nq3 : List.isEmpty c = false := by cases c with | nil => exact absurd rfl hc | cons a r => rfl
    obtain rfl := ck_no HR.out (fun h => hc (by have := ((ckI _ _ _ _ _).1 h).2.2.2.2.1; simpa using this))
    have k0 := far_any 0 W0 false fl
    have k1 := far_any 0 W0 false fh
    go_wp2_with fail
    clear hW0
    refine k0.mono ?_
    rintro e W0 ⟨rfl, rfl⟩
    clear k0
    go_wp2_with fail
    refine k1.mono ?_
    rintro e W0 ⟨rfl, rfl⟩
    clear k1
    go_wp2
    go_ret
    exact ⟨rfl, HBL0.out⟩
  subst hc
  by_cases hw : 64 < wl
  · have e5 : (64 : Int) < (wl : Int) := by omega
    obtain rfl := ck_no HR.out (fun h => by have := ((ckI _ _ _ _ _).1 h).2.2.2.1; have h2 := HWL.out; omega)
    have k0 := far_any 0 W0 false fl
    have k1 := far_any 0 W0 false fh
    go_wp2_with fail
    clear hW0
    refine k0.mono ?_
    rintro e W0 ⟨rfl, rfl⟩
    clear k0
    go_wp2_with fail
    refine k1.mono ?_
    rintro e W0 ⟨rfl, rfl⟩
    clear k1
    go_wp2
    go_ret
    exact ⟨rfl, HBL0.out⟩
  have e5 : ¬ (64 : Int) < (wl : Int) := by omega
  have k0 := far_any 0 W0 false fl
  have k1 := far_any 0 W0 false fh
  go_wp2_with fail
  clear hW0
  refine k0.mono ?_
  rintro e W0 ⟨rfl, rfl⟩
  clear k0
  go_wp2_with fail
  refine k1.mono ?_
  rintro e W0 ⟨rfl, rfl⟩
  clear k1
  obtain ⟨wt, hwt⟩ : ∃ wt, W0 = wt := ⟨_, rfl⟩
  subst hwt
  have HBT : Hid (Below w.heap.size w W0) := HBL0
  have HXT := HB0
  go_wp2
  go_loopw [109] (fun iv wr => ∃ i : Nat, iv = .int .i64 (i : Int) ∧ i ≤ wl ∧ Hid ((wh.take i).all tsB = true) ∧ Below W0.heap.size W0 wr) (fun iv _ => wl - (intOf iv).toNat)
  case atStart => exact ⟨0, rfl, Nat.zero_le _, by simp [Hid], Below.refl _ _⟩
  case round =>
    obtain ⟨i, rfl, hil, HA, hbl⟩ := hrel
    by_cases c9 : i < wl
    · obtain ⟨⟨t1, t2, t3⟩, ht⟩ : ∃ t, wh[i]? = some t := ⟨_, List.getElem?_eq_getElem (by have := HWL.out; omega)⟩
      have HT : Hid (wh[i]? = some (t1, t2, t3)) := ht
      obtain ⟨wa', wc', hv, _, _, hbd, hcel⟩ := HTI.out
      simp only [Value.slice.injEq] at hv
      obtain ⟨rfl, -, rfl⟩ := hv
      obtain ⟨tb, tf, rfl, htb, hcl⟩ := hcel (by intro e; have h2 := HWL.out; rw [e] at h2; simp at h2; omega)
      have hbd1 := hbd _ (List.mem_of_getElem? ht)
      simp only at hbd1
      have hBW : Below w.heap.size w wr := bt HBT.out hbl
      have p0 : wr.cell? ⟨tb, tf + i * 3, none⟩ = some (.string (tx t1)) := (hBW.cell (p := ⟨tb, tf + i * 3, none⟩) (by dsimp only; omega)).trans (hcl i _ ht 0 _ rfl)
      have p1 : wr.cell? ⟨tb, tf + i * 3 + 1, none⟩ = some (.int .i64 t2) := (hBW.cell (p := ⟨tb, tf + i * 3 + 1, none⟩) (by dsimp only; omega)).trans (hcl i _ ht 1 _ rfl)
      have p2 : wr.cell? ⟨tb, tf + i * 3 + 2, none⟩ = some (.int .i64 t3) := (hBW.cell (p := ⟨tb, tf + i * 3 + 2, none⟩) (by dsimp only; omega)).trans (hcl i _ ht 2 _ rfl)
      have c9i : (i : Int) < (wl : Int) := by omega
      obtain ⟨W5, hW5⟩ : ∃ W5, wr.alloc (.cells #[.string (tx t1), .int .i64 t2, .int .i64 t3] 81) = W5 := ⟨_, rfl⟩
      have HB5 : Hid (Below wr.heap.size wr W5) := hW5 ▸ ba _ _
      have HX5 : Hid (Bx W5 wr.heap.size [.string (tx t1), .int .i64 t2, .int .i64 t3]) := hW5 ▸ Bx.new wr [.string (tx t1), .int .i64 t2, .int .i64 t3] 81 rfl
      have m0 := (HX5.out 0 _ rfl).c
      obtain ⟨nbt, hnbt⟩ : ∃ nb, nmd t1 = nb := ⟨_, rfl⟩
      have kn := rnmd_any t1 hbd1.1 W5 nbt hnbt
      have HNO : Hid (tsB (t1, t2, t3) = false → ckB (.node 1 [] 0 0 wh 0 x y) = true → False) := fun hf h => by
        have := List.all_eq_true.1 (((ckI _ _ _ _ _).1 h).2.2.2.2.2.1) _ (List.mem_of_getElem? HT.out)
        rw [hf] at this
        cases this
      clear ht hcl hcel hbd
      go_wp2_with fail
      clear hW5
      refine kn.mono ?_
      rintro e w6 ⟨rfl, hb6⟩
      have HB6 : Hid (Below w.heap.size w w6) := bt (bt hBW HB5.out) hb6
      have HC6 : Hid (Below W0.heap.size W0 w6) := bt (bt hbl HB5.out) hb6
      have HX6 : Hid (Bx w6 wr.heap.size [.string (tx t1), .int .i64 t2, .int .i64 t3]) := HX5.out.at hb6
      have m1 := (HX6.out 1 _ rfl).c
      have m2 := (HX6.out 2 _ rfl).c
      clear kn hb6 m0 p0 p1 p2
      cases nbt with
      | false =>
        obtain rfl := ck_no HR.out (HNO.out (by simp [tsB, hnbt]))
        go_wp2
        go_ret
        exact ⟨rfl, HB6.out⟩
      | true =>
      by_cases d1 : t2 < 1
      · have d2 : decide (t2 < 1) = true := by simpa using d1
        obtain rfl := ck_no HR.out (HNO.out (by simp [tsB]; omega))
        go_wp2
        go_ret
        exact ⟨rfl, HB6.out⟩
      have d2 : decide (t2 < 1) = false := by simpa using d1
      by_cases d3 : 6 < t2
      · have d4 : decide (6 < t2) = true := by simpa using d3
        obtain rfl := ck_no HR.out (HNO.out (by simp [tsB]; omega))
        go_wp2
        go_ret
        exact ⟨rfl, HB6.out⟩
      have d4 : decide (6 < t2) = false := by simpa using d3
      obtain ⟨fb, hfb⟩ : ∃ fb, farB t3 = fb := ⟨_, rfl⟩
      have kf := far_any t3 w6 fb hfb
      go_wp2_with fail
      refine kf.mono ?_
      rintro e w6 ⟨rfl, rfl⟩
      clear kf
      cases fb with
      | true =>
        obtain rfl := ck_no HR.out (HNO.out (by simp [farB] at hfb; simp [tsB]; omega))
        go_wp2
        go_ret
        exact ⟨rfl, HB6.out⟩
      | false =>
      have HA2 : Hid ((wh.take (i + 1)).all tsB = true) := by
        rw [Hid, List.take_add_one, HT.out]
        simp only [Option.toList, List.all_append, HA.out, List.all_cons, List.all_nil, Bool.and_true, Bool.true_and]
        simp [farB] at hfb
        simp [tsB, hnbt]
        omega
      clear hfb hnbt
      go_wp2
      go_roundw
      case rel => exact ⟨i + 1, by go_num, c9, HA2, HC6.out⟩
      case measure => simp [intOf]; omega
    obtain rfl : i = wl := by omega
    have HAL : Hid (wh.all tsB = true) := by have := HA.out; rwa [List.take_of_length_le (by rw [HWL.out]; omega)] at this
    have HBR : Hid (Below w.heap.size w wr) := bt HBT.out hbl
    have HXR : Hid (Bx wr w.heap.size _) := HXT.out.at hbl
    have z5 := (HXR.out 5 _ rfl).c
    clear hbl HA
    obtain ⟨wt, hwt⟩ : ∃ wt : World, wt = wr := ⟨_, rfl⟩
    subst hwt
    go_wp2
    go_loopw [136] (fun jv wr => ∃ j : Nat, jv = .int .i64 (j : Int) ∧ j ≤ 0 ∧ Hid ((1 ≤ j → ckB x = true) ∧ (2 ≤ j → ckB y = true)) ∧ Below wt.heap.size wt wr) (fun jv _ => 0 - (intOf jv).toNat)
    case atStart => exact ⟨0, rfl, Nat.zero_le _, ⟨fun h => by omega, fun h => by omega⟩, Below.refl _ _⟩
    case round =>
      obtain ⟨j, rfl, hjn, HJ, hbk⟩ := hrel
      by_cases c10 : j < 0
      · exact absurd c10 (by omega)
      obtain rfl : j = 0 := by omega
      obtain rfl : true = r := by
        rw [← HR.out]
        exact ((ckI _ _ _ _ _).2 ⟨by omega, by omega, by omega, by have h2 := HWL.out; omega, by simp, HAL.out, rfl, rfl⟩).symm
      go_wp2
      go_ret
      exact ⟨rfl, bt HBR.out hbk⟩
end Go.Proofs.YtidfkencjdjkbaaGreatDoor

/-
  The document's own answer, chapter 15, Print: may a question be said?
-/
namespace Go.Proofs.YtidfkencjdjkbaaGreatDoor
open Go.RowKit Sp

set_option maxHeartbeats 4000000 in
set_option maxRecDepth 100000 in
theorem say2 (c : By) (lo hi : Int) (wh : List Tst) (n : Nat) (x y : Qu) (w : World) (B : Nat) (cs : List Value) (hB : B ≤ w.heap.size) (h : QI w B (.node 2 c lo hi wh n x y) cs) (hIX : ∀ (w : World) (cs : List Value), B ≤ w.heap.size → QI w B x cs → Calls Tryz.prog 17 #[.agg cs.toArray] w (SaP w (ckB x))) (hIY : ∀ (w : World) (cs : List Value), B ≤ w.heap.size → QI w B y cs → Calls Tryz.prog 17 #[.agg cs.toArray] w (SaP w (ckB y))) : Calls Tryz.prog 17 #[.agg cs.toArray] w (SaP w (ckB (.node 2 c lo hi wh n x y))) := by
  have hs : shpT 2 = some (0, true, -1048576, 1048576, 1048576, 64) := rfl
  have ckI : ∀ (c : By) (lo hi : Int) (wh : List Tst) (n : Nat), ckB (.node 2 c lo hi wh n x y) = true ↔ (n : Int) = 0 ∧ ((-1048576 : Int) ≤ lo ∧ lo ≤ 1048576) ∧ ((-1048576 : Int) ≤ hi ∧ hi ≤ 1048576) ∧ (wh.length : Int) ≤ 64 ∧ (if true = true then nmd c else decide (c = [])) = true ∧ wh.all tsB = true ∧ (if 1 ≤ n then ckB x else true) = true ∧ (if 2 ≤ n then ckB y else true) = true := fun c lo hi wh n => ck_iff hs
  obtain ⟨wv, ka, kc, rfl, hTI, hnk, hn63, hc60, hk64, hl64, hh64, hx0, hy0, hkids⟩ := h
  have HTI : Hid (TI w B wh wv) := hTI
  obtain ⟨wa, wc, rfl, hwc, hw63, _, _⟩ := hTI
  obtain ⟨wl, hwl⟩ : ∃ wl, wh.length = wl := ⟨_, rfl⟩
  have HWL : Hid (wh.length = wl) := hwl
  rw [hwl] at hwc hw63 HTI ⊢
  clear hwl
  have HKI : Hid (1 ≤ n → n ≤ 2 → ∃ b o, ka = some ⟨b, o, none⟩ ∧ b < B ∧ (∃ xs, QI w B x xs ∧ ∀ (j : Nat) u, xs[j]? = some u → w.cell? ⟨b, o + j, none⟩ = some u) ∧ (2 ≤ n → ∃ ys, QI w B y ys ∧ ∀ (j : Nat) u, ys[j]? = some u → w.cell? ⟨b, o + 6 + j, none⟩ = some u)) := hkids
  have HIX : Hid _ := hIX
  have HIY : Hid _ := hIY
  obtain ⟨W0, hW0⟩ : ∃ W0, w.alloc (.cells #[.int .i64 2, .string (tx c), .int .i64 lo, .int .i64 hi, .slice wa wl wc, .slice ka n kc] 25) = W0 := ⟨_, rfl⟩
  have HBL0 : Hid (Below w.heap.size w W0) := hW0 ▸ ba _ _
  have HB0 : Hid (Bx W0 w.heap.size [.int .i64 2, .string (tx c), .int .i64 lo, .int .i64 hi, .slice wa wl wc, .slice ka n kc]) := hW0 ▸ Bx.new w [.int .i64 2, .string (tx c), .int .i64 lo, .int .i64 hi, .slice wa wl wc, .slice ka n kc] 25 rfl
  have z0 := (HB0.out 0 _ rfl).c
  have z1 := (HB0.out 1 _ rfl).c
  have z2 := (HB0.out 2 _ rfl).c
  have z3 := (HB0.out 3 _ rfl).c
  have z4 := (HB0.out 4 _ rfl).c
  have z5 := (HB0.out 5 _ rfl).c
  obtain ⟨r, hr⟩ : ∃ r, ckB (.node 2 c lo hi wh n x y) = r := ⟨_, rfl⟩
  have HR : Hid (ckB (.node 2 c lo hi wh n x y) = r) := hr
  rw [hr]
  clear hkids hx0 hy0 hr hIX hIY hk64
  go_enter Tryz.func17, Tryz.ntmps17
  by_cases hn : n = 0
  rotate_left
  · have e1 : ¬ (n : Int) = 0 := by omega
    have e2 : ((n : Int) == 0) = false := by simpa using e1
    have e3 : ((n : Int) != 0) = true := by simpa using e1
    obtain rfl := ck_no HR.out (fun h => hn (by have := ((ckI _ _ _ _ _).1 h).1; omega))
    go_wp2
    clear hW0
    go_ret
    exact ⟨rfl, HBL0.out⟩
  subst hn
  by_cases fl : farB lo = true
  · obtain rfl := ck_no HR.out (fun h => by have := ((ckI _ _ _ _ _).1 h).2.1; simp [farB] at fl; omega)
    have k0 := far_any lo W0 true fl
    go_wp2_with fail
    clear hW0
    refine k0.mono ?_
    rintro e W0 ⟨rfl, rfl⟩
    clear k0
    go_wp2
    go_ret
    exact ⟨rfl, HBL0.out⟩
  have fl : farB lo = false := by simpa using fl
  by_cases fh : farB hi = true
  · obtain rfl := ck_no HR.out (fun h => by have := ((ckI _ _ _ _ _).1 h).2.2.1; simp [farB] at fh; omega)
    have k0 := far_any lo W0 false fl
    have k1 := far_any hi W0 true fh
    go_wp2_with fail
    clear hW0
    refine k0.mono ?_
    rintro e W0 ⟨rfl, rfl⟩
    clear k0
    go_wp2_with fail
    refine k1.mono ?_
    rintro e W0 ⟨rfl, rfl⟩
    clear k1
    go_wp2
    go_ret
    exact ⟨rfl, HBL0.out⟩
  have fh : farB hi = false := by simpa using fh
  obtain ⟨nb, hnb⟩ : ∃ nb, nmd c = nb := ⟨_, rfl⟩
  have k0 := far_any lo W0 false fl
  have k1 := far_any hi W0 false fh
  go_wp2_with fail
  clear hW0
  refine k0.mono ?_
  rintro e W0 ⟨rfl, rfl⟩
  clear k0
  go_wp2_with fail
  refine k1.mono ?_
  rintro e W0 ⟨rfl, rfl⟩
  clear k1
  have kn := rnmd_any c hc60 W0 nb hnb
  go_wp2_with fail
  refine kn.mono ?_
  rintro e w4 ⟨rfl, hb4⟩
  have HBT : Hid (Below w.heap.size w w4) := bt HBL0.out hb4
  have HXT : Hid (Bx w4 w.heap.size [.int .i64 2, .string (tx c), .int .i64 lo, .int .i64 hi, .slice wa wl wc, .slice ka 0 kc]) := HB0.out.at hb4
  clear kn hb4 z0 z1 z2 z3 z4 z5
  have z0 := (HXT.out 0 _ rfl).c
  have z1 := (HXT.out 1 _ rfl).c
  have z2 := (HXT.out 2 _ rfl).c
  have z3 := (HXT.out 3 _ rfl).c
  have z4 := (HXT.out 4 _ rfl).c
  have z5 := (HXT.out 5 _ rfl).c
  cases nb with
  | false =>
    obtain rfl := ck_no HR.out (fun h => by have := ((ckI _ _ _ _ _).1 h).2.2.2.2.1; simp [hnb] at this)
    go_wp2
    go_ret
    exact ⟨rfl, HBT.out⟩
  | true =>
  by_cases hw : 64 < wl
  · have e5 : (64 : Int) < (wl : Int) := by omega
    obtain rfl := ck_no HR.out (fun h => by have := ((ckI _ _ _ _ _).1 h).2.2.2.1; have h2 := HWL.out; omega)
    go_wp2
    go_ret
    exact ⟨rfl, HBT.out⟩
  have e5 : ¬ (64 : Int) < (wl : Int) := by omega
  go_wp2
  go_loopw [109] (fun iv wr => ∃ i : Nat, iv = .int .i64 (i : Int) ∧ i ≤ wl ∧ Hid ((wh.take i).all tsB = true) ∧ Below w4.heap.size w4 wr) (fun iv _ => wl - (intOf iv).toNat)
  case atStart => exact ⟨0, rfl, Nat.zero_le _, by simp [Hid], Below.refl _ _⟩
  case round =>
    obtain ⟨i, rfl, hil, HA, hbl⟩ := hrel
    by_cases c9 : i < wl
    · obtain ⟨⟨t1, t2, t3⟩, ht⟩ : ∃ t, wh[i]? = some t := ⟨_, List.getElem?_eq_getElem (by have := HWL.out; omega)⟩
      have HT : Hid (wh[i]? = some (t1, t2, t3)) := ht
      obtain ⟨wa', wc', hv, _, _, hbd, hcel⟩ := HTI.out
      simp only [Value.slice.injEq] at hv
      obtain ⟨rfl, -, rfl⟩ := hv
      obtain ⟨tb, tf, rfl, htb, hcl⟩ := hcel (by intro e; have h2 := HWL.out; rw [e] at h2; simp at h2; omega)
      have hbd1 := hbd _ (List.mem_of_getElem? ht)
      simp only at hbd1
      have hBW : Below w.heap.size w wr := bt HBT.out hbl
      have p0 : wr.cell? ⟨tb, tf + i * 3, none⟩ = some (.string (tx t1)) := (hBW.cell (p := ⟨tb, tf + i * 3, none⟩) (by dsimp only; omega)).trans (hcl i _ ht 0 _ rfl)
      have p1 : wr.cell? ⟨tb, tf + i * 3 + 1, none⟩ = some (.int .i64 t2) := (hBW.cell (p := ⟨tb, tf + i * 3 + 1, none⟩) (by dsimp only; omega)).trans (hcl i _ ht 1 _ rfl)
      have p2 : wr.cell? ⟨tb, tf + i * 3 + 2, none⟩ = some (.int .i64 t3) := (hBW.cell (p := ⟨tb, tf + i * 3 + 2, none⟩) (by dsimp only; omega)).trans (hcl i _ ht 2 _ rfl)
      have c9i : (i : Int) < (wl : Int) := by omega
      obtain ⟨W5, hW5⟩ : ∃ W5, wr.alloc (.cells #[.string (tx t1), .int .i64 t2, .int .i64 t3] 81) = W5 := ⟨_, rfl⟩
      have HB5 : Hid (Below wr.heap.size wr W5) := hW5 ▸ ba _ _
      have HX5 : Hid (Bx W5 wr.heap.size [.string (tx t1), .int .i64 t2, .int .i64 t3]) := hW5 ▸ Bx.new wr [.string (tx t1), .int .i64 t2, .int .i64 t3] 81 rfl
      have m0 := (HX5.out 0 _ rfl).c
      obtain ⟨nbt, hnbt⟩ : ∃ nb, nmd t1 = nb := ⟨_, rfl⟩
      have kn := rnmd_any t1 hbd1.1 W5 nbt hnbt
      have HNO : Hid (tsB (t1, t2, t3) = false → ckB (.node 2 c lo hi wh 0 x y) = true → False) := fun hf h => by
        have := List.all_eq_true.1 (((ckI _ _ _ _ _).1 h).2.2.2.2.2.1) _ (List.mem_of_getElem? HT.out)
        rw [hf] at this
        cases this
      clear ht hcl hcel hbd
      go_wp2_with fail
      clear hW5
      refine kn.mono ?_
      rintro e w6 ⟨rfl, hb6⟩
      have HB6 : Hid (Below w.heap.size w w6) := bt (bt hBW HB5.out) hb6
      have HC6 : Hid (Below w4.heap.size w4 w6) := bt (bt hbl HB5.out) hb6
      have HX6 : Hid (Bx w6 wr.heap.size [.string (tx t1), .int .i64 t2, .int .i64 t3]) := HX5.out.at hb6
      have m1 := (HX6.out 1 _ rfl).c
      have m2 := (HX6.out 2 _ rfl).c
      clear kn hb6 m0 p0 p1 p2
      cases nbt with
      | false =>
        obtain rfl := ck_no HR.out (HNO.out (by simp [tsB, hnbt]))
        go_wp2
        go_ret
        exact ⟨rfl, HB6.out⟩
      | true =>
      by_cases d1 : t2 < 1
      · have d2 : decide (t2 < 1) = true := by simpa using d1
        obtain rfl := ck_no HR.out (HNO.out (by simp [tsB]; omega))
        go_wp2
        go_ret
        exact ⟨rfl, HB6.out⟩
      have d2 : decide (t2 < 1) = false := by simpa using d1
      by_cases d3 : 6 < t2
      · have d4 : decide (6 < t2) = true := by simpa using d3
        obtain rfl := ck_no HR.out (HNO.out (by simp [tsB]; omega))
        go_wp2
        go_ret
        exact ⟨rfl, HB6.out⟩
      have d4 : decide (6 < t2) = false := by simpa using d3
      obtain ⟨fb, hfb⟩ : ∃ fb, farB t3 = fb := ⟨_, rfl⟩
      have kf := far_any t3 w6 fb hfb
      go_wp2_with fail
      refine kf.mono ?_
      rintro e w6 ⟨rfl, rfl⟩
      clear kf
      cases fb with
      | true =>
        obtain rfl := ck_no HR.out (HNO.out (by simp [farB] at hfb; simp [tsB]; omega))
        go_wp2
        go_ret
        exact ⟨rfl, HB6.out⟩
      | false =>
      have HA2 : Hid ((wh.take (i + 1)).all tsB = true) := by
        rw [Hid, List.take_add_one, HT.out]
        simp only [Option.toList, List.all_append, HA.out, List.all_cons, List.all_nil, Bool.and_true, Bool.true_and]
        simp [farB] at hfb
        simp [tsB, hnbt]
        omega
      clear hfb hnbt
      go_wp2
      go_roundw
      case rel => exact ⟨i + 1, by go_num, c9, HA2, HC6.out⟩
      case measure => simp [intOf]; omega
    obtain rfl : i = wl := by omega
    have HAL : Hid (wh.all tsB = true) := by have := HA.out; rwa [List.take_of_length_le (by rw [HWL.out]; omega)] at this
    have HBR : Hid (Below w.heap.size w wr) := bt HBT.out hbl
    have HXR : Hid (Bx wr w.heap.size _) := HXT.out.at hbl
    have z5 := (HXR.out 5 _ rfl).c
    clear hbl HA
    obtain ⟨wt, hwt⟩ : ∃ wt : World, wt = wr := ⟨_, rfl⟩
    subst hwt
    go_wp2
    go_loopw [136] (fun jv wr => ∃ j : Nat, jv = .int .i64 (j : Int) ∧ j ≤ 0 ∧ Hid ((1 ≤ j → ckB x = true) ∧ (2 ≤ j → ckB y = true)) ∧ Below wt.heap.size wt wr) (fun jv _ => 0 - (intOf jv).toNat)
    case atStart => exact ⟨0, rfl, Nat.zero_le _, ⟨fun h => by omega, fun h => by omega⟩, Below.refl _ _⟩
    case round =>
      obtain ⟨j, rfl, hjn, HJ, hbk⟩ := hrel
      by_cases c10 : j < 0
      · exact absurd c10 (by omega)
      obtain rfl : j = 0 := by omega
      obtain rfl : true = r := by
        rw [← HR.out]
        exact ((ckI _ _ _ _ _).2 ⟨by omega, by simp [farB] at fl; omega, by simp [farB] at fh; omega, by have h2 := HWL.out; omega, by simpa using hnb, HAL.out, rfl, rfl⟩).symm
      go_wp2
      go_ret
      exact ⟨rfl, bt HBR.out hbk⟩
end Go.Proofs.YtidfkencjdjkbaaGreatDoor
