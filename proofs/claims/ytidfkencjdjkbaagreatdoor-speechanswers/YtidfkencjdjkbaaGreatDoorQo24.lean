import Derived.Test.YtidfkencjdjkbaaGreatDoorQo23
/-
  PACKAGE speech, Print: a question is written.
-/
namespace Go.Proofs.YtidfkencjdjkbaaGreatDoor
open Go.RowKit Sp
open Go.Lib (decDigits itoa)

theorem WgP.pre {B R : Nat} {w0 w : World} {l L : List By} (hL : ∃ r, l ++ r = L) (h : ¬ (wrs [] l).length ≤ 65536) (hb : Below B w0 w) : WgP B R w0 L (.panicked (chn 4 0)) w := by
  obtain ⟨r, rfl⟩ := hL
  exact WgP.more r h hb
theorem isS_of {w : World} {B : Nat} {y : Qu} {k : Int} {r : List Value} (h : QI w B y (.int .i64 k :: r)) : (decide (k = 4) || decide (k = 5)) = isS y := by
  cases y with
  | none => exact h.elim
  | node k2 c2 lo2 hi2 wh2 n2 x2 y2 =>
    obtain ⟨wv, ka, kc, e, _⟩ := h
    simp only [List.cons.injEq, Value.int.injEq, true_and] at e
    rw [e.1]
    rfl
theorem isT_of {w : World} {B : Nat} {y : Qu} {k : Int} {r : List Value} (h : QI w B y (.int .i64 k :: r)) : decide (k = 6) = isT y := by
  cases y with
  | none => exact h.elim
  | node k2 c2 lo2 hi2 wh2 n2 x2 y2 =>
    obtain ⟨wv, ka, kc, e, _⟩ := h
    simp only [List.cons.injEq, Value.int.injEq, true_and] at e
    rw [e.1]
    rfl
set_option maxHeartbeats 2000000 in
set_option maxRecDepth 100000 in
theorem qw1 {B R : Nat} (h5 : 5 ≤ B) (c : By) (lo hi : Int) (wh : List Tst) (x y : Qu) (w : World) (l : List By) (cs : List Value) (h : Wg B R l w) (hI : QI w B (.node 1 c lo hi wh 0 x y) cs) (hok : ∀ t ∈ wh, TOk t) (hG : Glo w) (hpt : PT B w) : Calls Tryz.prog 35 #[.pointer (some ⟨R, 0, none⟩), .agg cs.toArray] w (WgP B R w (l ++ [wCount] ++ chx wh)) := by
  have HI : Hid (QI w B (.node 1 c lo hi wh 0 x y) cs) := hI
  obtain ⟨wv, ka, kc, rfl, hT, hnk, hn63, hc60, hk64, hl64, hh64, hx0, hy0, hkids⟩ := hI
  have HT : Hid (TI w B wh wv) := hT
  obtain ⟨wa, wc, rfl, hwc, hw63, _, _⟩ := hT
  have HOK : Hid (∀ t ∈ wh, TOk t) := hok
  have HG : Hid (Glo w) := hG
  have HP : Hid (PT B w) := hpt
  have HW : Hid (Wg B R l w) := h
  obtain ⟨L, hL⟩ : ∃ L, l ++ [wCount] ++ chx wh = L := ⟨_, rfl⟩
  have HL : Hid (l ++ [wCount] ++ chx wh = L) := hL
  have HE1 : Hid (∃ r, l ++ [wCount] ++ r = L) := ⟨chx wh, by simp only [← hL, List.append_assoc]⟩
  rw [hL]
  obtain ⟨wl, hwl⟩ : ∃ wl, wh.length = wl := ⟨_, rfl⟩
  have HWL : Hid (wh.length = wl) := hwl
  rw [hwl] at HI HT hwc hw63 ⊢
  obtain ⟨W0, hW0⟩ : ∃ W0, w.alloc (.cells #[.int .i64 1, .string (tx c), .int .i64 lo, .int .i64 hi, .slice wa wl wc, .slice ka 0 kc] 25) = W0 := ⟨_, rfl⟩
  have hb0 : Below w.heap.size w W0 := hW0 ▸ ba _ _
  have HX0 : Hid (Kbx W0 w.heap.size #[.int .i64 1, .string (tx c), .int .i64 lo, .int .i64 hi, .slice wa wl wc, .slice ka 0 kc] 25) := hW0 ▸ Kbx.new w _ _
  have hXR : w.heap.size ≠ R := Nat.ne_of_gt HW.out.t.lt
  have HW0 : Hid (Wg B R l W0) := HW.out.at hb0
  have HK0 : Hid (Kpw B R w W0) := HW.out.kp hb0
  have z0 := HX0.out.c 0 _ rfl
  have z1 := HX0.out.c 1 _ rfl
  have z2 := HX0.out.c 2 _ rfl
  have z3 := HX0.out.c 3 _ rfl
  have z4 := HX0.out.c 4 _ rfl
  have z5 := HX0.out.c 5 _ rfl
  clear hok hG hpt h hb0 hL hwl hx0 hy0 hkids
  have kp := put_new HW0.out [wCount] #[.string (tx wCount)] rfl 1 rfl (by omega) (by decide)
  go_enter Tryz.func35, Tryz.ntmps35
  go_wp2_with fail
  clear hW0
  refine kp.mono ?_
  rintro e w1 (⟨rfl, hw1, hk1⟩ | ⟨rfl, hn1, hb1⟩)
  rotate_left
  · go_wp2
    exact ⟨rfl, WgP.pre HE1.out hn1 (HK0.out.b.trans hb1)⟩
  have HW1 : Hid (Wg B R (l ++ [wCount]) w1) := hw1
  have HK1 : Hid (Kpw B R w w1) := HK0.out.trans hk1
  have HX1 : Hid (Kbx w1 w.heap.size #[.int .i64 1, .string (tx c), .int .i64 lo, .int .i64 hi, .slice wa wl wc, .slice ka 0 kc] 25) := HX0.out.kp hk1 hXR (by decide)
  clear hw1 hk1 z0 z1 z2 z3 z4 z5
  have z0 := HX1.out.c 0 _ rfl
  have z1 := HX1.out.c 1 _ rfl
  have z2 := HX1.out.c 2 _ rfl
  have z3 := HX1.out.c 3 _ rfl
  have z4 := HX1.out.c 4 _ rfl
  have z5 := HX1.out.c 5 _ rfl
  clear kp
  have kt := wtests_any wh _ HW1.out (TI.keep HT.out HK1.out.b) HOK.out (HG.out.bel h5 HK1.out.b) (HP.out.on HK1.out.b) h5
  rw [HL.out] at kt
  go_wp2_with fail
  refine kt.mono ?_
  rintro e w9 (⟨rfl, hw9, hk9⟩ | ⟨rfl, hn9, hb9⟩)
  · go_wp2
    go_end0
    exact .inl ⟨rfl, hw9, HK1.out.trans hk9⟩
  · go_wp2
    exact ⟨rfl, .inr ⟨rfl, hn9, HK1.out.b.trans hb9⟩⟩
set_option maxHeartbeats 2000000 in
set_option maxRecDepth 100000 in
theorem qw3 {B R : Nat} (h5 : 5 ≤ B) (c : By) (lo hi : Int) (wh : List Tst) (x y : Qu) (hnm : nmd c = true) (w : World) (l : List By) (cs : List Value) (h : Wg B R l w) (hI : QI w B (.node 3 c lo hi wh 0 x y) cs) (hok : ∀ t ∈ wh, TOk t) (hG : Glo w) (hpt : PT B w) : Calls Tryz.prog 35 #[.pointer (some ⟨R, 0, none⟩), .agg cs.toArray] w (WgP B R w (l ++ [wBins, c] ++ chx wh)) := by
  have HI : Hid (QI w B (.node 3 c lo hi wh 0 x y) cs) := hI
  obtain ⟨wv, ka, kc, rfl, hT, hnk, hn63, hc60, hk64, hl64, hh64, hx0, hy0, hkids⟩ := hI
  have HT : Hid (TI w B wh wv) := hT
  obtain ⟨wa, wc, rfl, hwc, hw63, _, _⟩ := hT
  have HOK : Hid (∀ t ∈ wh, TOk t) := hok
  have HG : Hid (Glo w) := hG
  have HP : Hid (PT B w) := hpt
  have HW : Hid (Wg B R l w) := h
  obtain ⟨L, hL⟩ : ∃ L, l ++ [wBins, c] ++ chx wh = L := ⟨_, rfl⟩
  have HL : Hid (l ++ [wBins, c] ++ chx wh = L) := hL
  have HE1 : Hid (∃ r, l ++ [wBins, c] ++ r = L) := ⟨chx wh, by simp only [← hL, List.append_assoc]⟩
  rw [hL]
  obtain ⟨wl, hwl⟩ : ∃ wl, wh.length = wl := ⟨_, rfl⟩
  have HWL : Hid (wh.length = wl) := hwl
  rw [hwl] at HI HT hwc hw63 ⊢
  obtain ⟨W0, hW0⟩ : ∃ W0, w.alloc (.cells #[.int .i64 3, .string (tx c), .int .i64 lo, .int .i64 hi, .slice wa wl wc, .slice ka 0 kc] 25) = W0 := ⟨_, rfl⟩
  have hb0 : Below w.heap.size w W0 := hW0 ▸ ba _ _
  have HX0 : Hid (Kbx W0 w.heap.size #[.int .i64 3, .string (tx c), .int .i64 lo, .int .i64 hi, .slice wa wl wc, .slice ka 0 kc] 25) := hW0 ▸ Kbx.new w _ _
  have hXR : w.heap.size ≠ R := Nat.ne_of_gt HW.out.t.lt
  have HW0 : Hid (Wg B R l W0) := HW.out.at hb0
  have HK0 : Hid (Kpw B R w W0) := HW.out.kp hb0
  have z0 := HX0.out.c 0 _ rfl
  have z1 := HX0.out.c 1 _ rfl
  have z2 := HX0.out.c 2 _ rfl
  have z3 := HX0.out.c 3 _ rfl
  have z4 := HX0.out.c 4 _ rfl
  have z5 := HX0.out.c 5 _ rfl
  clear hok hG hpt h hb0 hL hwl hx0 hy0 hkids
  have hcl := nmd_len hnm
  have kp := put_new HW0.out [wBins, c] #[.string (tx wBins), .string (tx c)] rfl 2 rfl (by omega) (by intro s hs; simp only [List.mem_cons, List.not_mem_nil, or_false] at hs; rcases hs with rfl | rfl; decide; omega)
  clear hnm
  go_enter Tryz.func35, Tryz.ntmps35
  go_wp2_with fail
  clear hW0
  refine kp.mono ?_
  rintro e w1 (⟨rfl, hw1, hk1⟩ | ⟨rfl, hn1, hb1⟩)
  rotate_left
  · go_wp2
    exact ⟨rfl, WgP.pre HE1.out hn1 (HK0.out.b.trans hb1)⟩
  have HW1 : Hid (Wg B R (l ++ [wBins, c]) w1) := hw1
  have HK1 : Hid (Kpw B R w w1) := HK0.out.trans hk1
  have HX1 : Hid (Kbx w1 w.heap.size #[.int .i64 3, .string (tx c), .int .i64 lo, .int .i64 hi, .slice wa wl wc, .slice ka 0 kc] 25) := HX0.out.kp hk1 hXR (by decide)
  clear hw1 hk1 z0 z1 z2 z3 z4 z5
  have z0 := HX1.out.c 0 _ rfl
  have z1 := HX1.out.c 1 _ rfl
  have z2 := HX1.out.c 2 _ rfl
  have z3 := HX1.out.c 3 _ rfl
  have z4 := HX1.out.c 4 _ rfl
  have z5 := HX1.out.c 5 _ rfl
  clear kp
  have kt := wtests_any wh _ HW1.out (TI.keep HT.out HK1.out.b) HOK.out (HG.out.bel h5 HK1.out.b) (HP.out.on HK1.out.b) h5
  rw [HL.out] at kt
  go_wp2_with fail
  refine kt.mono ?_
  rintro e w9 (⟨rfl, hw9, hk9⟩ | ⟨rfl, hn9, hb9⟩)
  · go_wp2
    go_end0
    exact .inl ⟨rfl, hw9, HK1.out.trans hk9⟩
  · go_wp2
    exact ⟨rfl, .inr ⟨rfl, hn9, HK1.out.b.trans hb9⟩⟩
set_option maxHeartbeats 2000000 in
set_option maxRecDepth 100000 in
theorem qw2 {B R : Nat} (h5 : 5 ≤ B) (c : By) (lo hi : Int) (wh : List Tst) (x y : Qu) (sp : By) (hsp : itoa lo ++ (sDots ++ itoa hi) = sp) (hnm : nmd c = true) (w : World) (l : List By) (cs : List Value) (h : Wg B R l w) (hI : QI w B (.node 2 c lo hi wh 0 x y) cs) (hok : ∀ t ∈ wh, TOk t) (hG : Glo w) (hpt : PT B w) : Calls Tryz.prog 35 #[.pointer (some ⟨R, 0, none⟩), .agg cs.toArray] w (WgP B R w (l ++ [wSum, c, wIn, sp] ++ chx wh)) := by
  have HI : Hid (QI w B (.node 2 c lo hi wh 0 x y) cs) := hI
  obtain ⟨wv, ka, kc, rfl, hT, hnk, hn63, hc60, hk64, hl64, hh64, hx0, hy0, hkids⟩ := hI
  have HT : Hid (TI w B wh wv) := hT
  obtain ⟨wa, wc, rfl, hwc, hw63, _, _⟩ := hT
  have HOK : Hid (∀ t ∈ wh, TOk t) := hok
  have HG : Hid (Glo w) := hG
  have HP : Hid (PT B w) := hpt
  have HW : Hid (Wg B R l w) := h
  obtain ⟨L, hL⟩ : ∃ L, l ++ [wSum, c, wIn, sp] ++ chx wh = L := ⟨_, rfl⟩
  have HL : Hid (l ++ [wSum, c, wIn, sp] ++ chx wh = L) := hL
  have HE1 : Hid (∃ r, l ++ [wSum, c, wIn, sp] ++ r = L) := ⟨chx wh, by simp only [← hL, List.append_assoc]⟩
  rw [hL]
  obtain ⟨wl, hwl⟩ : ∃ wl, wh.length = wl := ⟨_, rfl⟩
  have HWL : Hid (wh.length = wl) := hwl
  rw [hwl] at HI HT hwc hw63 ⊢
  obtain ⟨W0, hW0⟩ : ∃ W0, w.alloc (.cells #[.int .i64 2, .string (tx c), .int .i64 lo, .int .i64 hi, .slice wa wl wc, .slice ka 0 kc] 25) = W0 := ⟨_, rfl⟩
  have hb0 : Below w.heap.size w W0 := hW0 ▸ ba _ _
  have HX0 : Hid (Kbx W0 w.heap.size #[.int .i64 2, .string (tx c), .int .i64 lo, .int .i64 hi, .slice wa wl wc, .slice ka 0 kc] 25) := hW0 ▸ Kbx.new w _ _
  have hXR : w.heap.size ≠ R := Nat.ne_of_gt HW.out.t.lt
  have HW0 : Hid (Wg B R l W0) := HW.out.at hb0
  have HK0 : Hid (Kpw B R w W0) := HW.out.kp hb0
  have z0 := HX0.out.c 0 _ rfl
  have z1 := HX0.out.c 1 _ rfl
  have z2 := HX0.out.c 2 _ rfl
  have z3 := HX0.out.c 3 _ rfl
  have z4 := HX0.out.c 4 _ rfl
  have z5 := HX0.out.c 5 _ rfl
  clear hok hG hpt h hb0 hL hwl hx0 hy0 hkids
  have hcl := nmd_len hnm
  have hspl : sp.length ≤ 65536 := by
    rw [← hsp]
    have l1 := itoa_len hl64.1 hl64.2
    have l2 := itoa_len hh64.1 hh64.2
    simp only [List.length_append, List.length_cons, List.length_nil]
    omega
  have HSS : Hid (∀ s ∈ [wSum, c, wIn, sp], s.length ≤ 65536) := by
    intro s hs
    simp only [List.mem_cons, List.not_mem_nil, or_false] at hs
    rcases hs with rfl | rfl | rfl | rfl
    · decide
    · omega
    · decide
    · exact hspl
  have HSP : Hid (itoa lo ++ (sDots ++ itoa hi) = sp) := hsp
  have HL64 : Hid (-9223372036854775808 ≤ lo ∧ lo ≤ 9223372036854775807) := hl64
  have HH64 : Hid (-9223372036854775808 ≤ hi ∧ hi ≤ 9223372036854775807) := hh64
  clear hsp hspl hcl hnm
  go_enter Tryz.func35, Tryz.ntmps35
  go_wp2_with fail
  clear hW0
  refine q5 (fun _ _ d _ _ h => by cases d <;> exact h) _ _ _ _ _ _ _ _ _ _ _ _ _ _ _ _ _ _ _ _ _ _ _ _ _ _ _ _ _ _ _ _ _ _ _ _ _ _ _ _ _ _ _ _ _ _ _ _ _ _ _ _ _ _ _ _ _ _ _ _ _ _ _ _ _ _ _ _ _ _ _ _ _ _ _ _ _ _ _ _ _ _ _ _ _ _ _ _ _ _ _ _ _ _ _ _ _ _ _ _ _ _ _ _ _ _ _ _ _ _ _ _ _ _ _ _ _ _ _ _ _ _ _ _ _ _ _ _ _ _ _ _ _ _ _ _ _ _ _ _ _ _ _ _ _ _ W0 B R HW0.out.le w.heap.size 2 c lo hi wa wl wc ka 0 kc (l ++ [wSum, c, wIn, sp]) sp
    (fun W hW => (HX0.out.kp hW hXR (by decide)).c 0 _ rfl) (fun W hW => (HX0.out.kp hW hXR (by decide)).c 1 _ rfl) (fun W hW => (HX0.out.kp hW hXR (by decide)).c 2 _ rfl) (fun W hW => (HX0.out.kp hW hXR (by decide)).c 3 _ rfl) (fun W hW => (HX0.out.kp hW hXR (by decide)).c 4 _ rfl) (fun W hW => (HX0.out.kp hW hXR (by decide)).c 5 _ rfl)
    (fun W hW => HSP.out ▸ wspan_any B _ _ _ _ _ _ HL64.out HH64.out W (Nat.le_trans HW0.out.le hW.size) (HP.out.on (HK0.out.b.trans (hW.mono HW0.out.le))))
    (fun W hW => put_new (HW0.out.at hW) [wSum, c, wIn, sp] #[.string (tx wSum), .string (tx c), .string (tx wIn), .string (tx sp)] rfl 4 rfl (by omega) HSS.out) ?_ ?_
  rotate_left
  · exact fun a W hd hn hb => ⟨hd, WgP.pre HE1.out hn (HK0.out.b.trans hb)⟩
  intro w1 C hw1 hk1
  have HW1 : Hid (Wg B R (l ++ [wSum, c, wIn, sp]) w1) := hw1
  have HK1 : Hid (Kpw B R w w1) := HK0.out.trans hk1
  have HX1 : Hid (Kbx w1 w.heap.size #[.int .i64 2, .string (tx c), .int .i64 lo, .int .i64 hi, .slice wa wl wc, .slice ka 0 kc] 25) := HX0.out.kp hk1 hXR (by decide)
  clear hw1 hk1 z0 z1 z2 z3 z4 z5
  have z4 := HX1.out.c 4 _ rfl
  have kt := wtests_any wh _ HW1.out (TI.keep HT.out HK1.out.b) HOK.out (HG.out.bel h5 HK1.out.b) (HP.out.on HK1.out.b) h5
  rw [HL.out] at kt
  go_wp2_with fail
  refine kt.mono ?_
  rintro e w9 (⟨rfl, hw9, hk9⟩ | ⟨rfl, hn9, hb9⟩)
  · go_wp2
    go_end0
    exact .inl ⟨rfl, hw9, HK1.out.trans hk9⟩
  · go_wp2
    exact ⟨rfl, .inr ⟨rfl, hn9, HK1.out.b.trans hb9⟩⟩
set_option maxHeartbeats 2000000 in
set_option maxRecDepth 100000 in
theorem qw4 {B R : Nat} (h5 : 5 ≤ B) (c : By) (lo hi : Int) (wh : List Tst) (x y : Qu) (hX : QW B R x) (hY : QW B R y) (w : World) (l : List By) (cs : List Value) (h : Wg B R l w) (hI : QI w B (.node 4 c lo hi wh 2 x y) cs) (hok : ∀ t ∈ wh, TOk t) (hG : Glo w) (hpt : PT B w) : Calls Tryz.prog 35 #[.pointer (some ⟨R, 0, none⟩), .agg cs.toArray] w (WgP B R w (l ++ qtx x ++ [sPlus] ++ wtx (isS y) y ++ chx wh)) := by
  have HI : Hid (QI w B (.node 4 c lo hi wh 2 x y) cs) := hI
  obtain ⟨wv, ka, kc, rfl, hT, hnk, hn63, hc60, hk64, hl64, hh64, hx0, hy0, hkids⟩ := hI
  obtain ⟨b, ob, rfl, hbB, ⟨xs, hxq, hxc⟩, hyy⟩ := hkids (by omega) (by omega)
  have HXQ : Hid (QI w B x xs) := hxq
  obtain ⟨kx, cx, lox, hix, wax, wnx, wcx, kax, knx, kcx, rfl⟩ := hxq.six
  have HXC : Hid (∀ (j : Nat) u, ([.int .i64 kx, .string (tx cx), .int .i64 lox, .int .i64 hix, .slice wax wnx wcx, .slice kax knx kcx] : List Value)[j]? = some u → w.cell? ⟨b, ob + j, none⟩ = some u) := hxc
  obtain ⟨ys, hyq, hyc⟩ := hyy (by omega)
  have HYQ : Hid (QI w B y ys) := hyq
  obtain ⟨ky, cy, loy, hiy, way, wny, wcy, kay, kny, kcy, rfl⟩ := hyq.six
  have HYC : Hid (∀ (j : Nat) u, ([.int .i64 ky, .string (tx cy), .int .i64 loy, .int .i64 hiy, .slice way wny wcy, .slice kay kny kcy] : List Value)[j]? = some u → w.cell? ⟨b, ob + 6 + j, none⟩ = some u) := hyc
  clear hyq hyc
  clear hxq hxc hyy
  have HT : Hid (TI w B wh wv) := hT
  obtain ⟨wa, wc, rfl, hwc, hw63, _, _⟩ := hT
  have HOK : Hid (∀ t ∈ wh, TOk t) := hok
  have HG : Hid (Glo w) := hG
  have HP : Hid (PT B w) := hpt
  have HW : Hid (Wg B R l w) := h
  obtain ⟨L, hL⟩ : ∃ L, l ++ qtx x ++ [sPlus] ++ wtx (isS y) y ++ chx wh = L := ⟨_, rfl⟩
  have HL : Hid (l ++ qtx x ++ [sPlus] ++ wtx (isS y) y ++ chx wh = L) := hL
  have HE1 : Hid (∃ r, l ++ qtx x ++ r = L) := ⟨[sPlus] ++ (wtx (isS y) y ++ (chx wh)), by simp only [← hL, List.append_assoc]⟩
  have HE2 : Hid (∃ r, l ++ qtx x ++ [sPlus] ++ r = L) := ⟨wtx (isS y) y ++ (chx wh), by simp only [← hL, List.append_assoc]⟩
  have HE3 : Hid (∃ r, l ++ qtx x ++ [sPlus] ++ wtx (isS y) y ++ r = L) := ⟨chx wh, by simp only [← hL, List.append_assoc]⟩
  rw [hL]
  obtain ⟨wl, hwl⟩ : ∃ wl, wh.length = wl := ⟨_, rfl⟩
  have HWL : Hid (wh.length = wl) := hwl
  rw [hwl] at HI HT hwc hw63 ⊢
  obtain ⟨W0, hW0⟩ : ∃ W0, w.alloc (.cells #[.int .i64 4, .string (tx c), .int .i64 lo, .int .i64 hi, .slice wa wl wc, .slice (some ⟨b, ob, none⟩) 2 kc] 25) = W0 := ⟨_, rfl⟩
  have hb0 : Below w.heap.size w W0 := hW0 ▸ ba _ _
  have HX0 : Hid (Kbx W0 w.heap.size #[.int .i64 4, .string (tx c), .int .i64 lo, .int .i64 hi, .slice wa wl wc, .slice (some ⟨b, ob, none⟩) 2 kc] 25) := hW0 ▸ Kbx.new w _ _
  have hXR : w.heap.size ≠ R := Nat.ne_of_gt HW.out.t.lt
  have HW0 : Hid (Wg B R l W0) := HW.out.at hb0
  have HK0 : Hid (Kpw B R w W0) := HW.out.kp hb0
  have z0 := HX0.out.c 0 _ rfl
  have z1 := HX0.out.c 1 _ rfl
  have z2 := HX0.out.c 2 _ rfl
  have z3 := HX0.out.c 3 _ rfl
  have z4 := HX0.out.c 4 _ rfl
  have z5 := HX0.out.c 5 _ rfl
  clear hok hG hpt h hb0 hL hwl hx0 hy0
  have HQX : Hid (QW B R x) := hX
  have HQY : Hid (QW B R y) := hY
  clear hX hY HE1 HE2
  go_enter Tryz.func35, Tryz.ntmps35
  go_wp2_with fail
  clear hW0
  refine q9 (fun _ _ d _ _ h => by cases d <;> exact h) _ _ _ _ _ _ _ _ _ _ _ _ _ _ _ _ _ _ _ _ _ _ _ _ _ _ _ _ _ _ _ _ _ _ _ _ _ _ _ _ _ _ _ _ _ _ _ _ _ _ _ _ _ _ _ _ _ _ _ _ _ _ _ _ _ _ _ _ _ _ _ _ _ _ _ _ _ _ _ _ _ _ _ _ _ _ _ _ _ _ _ _ _ _ _ _ _ _ _ _ _ _ _ _ _ _ _ _ _ _ _ _ _ _ _ _ _ _ _ _ _ _ _ _ _ _ _ _ _ _ _ _ _ _ _ _ _ _ _ _ _ _ _ _ _ _ W0 B R HW0.out.le w.heap.size b ob kc kx cx lox hix wax wnx wcx kax knx kcx ky cy loy hiy way wny wcy kay kny kcy (l ++ qtx x ++ [sPlus] ++ wtx (isS y) y)
    (fun W hW => (HX0.out.kp hW hXR (by decide)).c 5 _ rfl)
    (fun W hW => ((HK0.out.trans hW).b.cell (p := ⟨b, ob + 0, none⟩) hbB).trans (HXC.out 0 _ rfl)) (fun W hW => ((HK0.out.trans hW).b.cell (p := ⟨b, ob + 1, none⟩) hbB).trans (HXC.out 1 _ rfl)) (fun W hW => ((HK0.out.trans hW).b.cell (p := ⟨b, ob + 2, none⟩) hbB).trans (HXC.out 2 _ rfl)) (fun W hW => ((HK0.out.trans hW).b.cell (p := ⟨b, ob + 3, none⟩) hbB).trans (HXC.out 3 _ rfl)) (fun W hW => ((HK0.out.trans hW).b.cell (p := ⟨b, ob + 4, none⟩) hbB).trans (HXC.out 4 _ rfl)) (fun W hW => ((HK0.out.trans hW).b.cell (p := ⟨b, ob + 5, none⟩) hbB).trans (HXC.out 5 _ rfl))
    (fun W hW => ((HK0.out.trans hW).b.cell (p := ⟨b, ob + 6 + 0, none⟩) hbB).trans (HYC.out 0 _ rfl)) (fun W hW => ((HK0.out.trans hW).b.cell (p := ⟨b, ob + 6 + 1, none⟩) hbB).trans (HYC.out 1 _ rfl)) (fun W hW => ((HK0.out.trans hW).b.cell (p := ⟨b, ob + 6 + 2, none⟩) hbB).trans (HYC.out 2 _ rfl)) (fun W hW => ((HK0.out.trans hW).b.cell (p := ⟨b, ob + 6 + 3, none⟩) hbB).trans (HYC.out 3 _ rfl)) (fun W hW => ((HK0.out.trans hW).b.cell (p := ⟨b, ob + 6 + 4, none⟩) hbB).trans (HYC.out 4 _ rfl)) (fun W hW => ((HK0.out.trans hW).b.cell (p := ⟨b, ob + 6 + 5, none⟩) hbB).trans (HYC.out 5 _ rfl))
    (fun W hW => sum_of HQX.out HQY.out h5 _ (by decide) W _ _ _ (HW0.out.at hW) (QI.keep (HK0.out.b.trans (hW.mono HW0.out.le)) x HXQ.out) (QI.keep (HK0.out.b.trans (hW.mono HW0.out.le)) y HYQ.out) (HG.out.bel h5 (HK0.out.b.trans (hW.mono HW0.out.le))) (HP.out.on (HK0.out.b.trans (hW.mono HW0.out.le)))) ?_ ?_
  rotate_left
  · exact fun a W hd hn hb => ⟨hd, WgP.pre HE3.out hn (HK0.out.b.trans hb)⟩
  intro w1 hw1 hk1
  have HW1 : Hid (Wg B R (l ++ qtx x ++ [sPlus] ++ wtx (isS y) y) w1) := hw1
  have HK1 : Hid (Kpw B R w w1) := HK0.out.trans hk1
  have HX1 : Hid (Kbx w1 w.heap.size #[.int .i64 4, .string (tx c), .int .i64 lo, .int .i64 hi, .slice wa wl wc, .slice (some ⟨b, ob, none⟩) 2 kc] 25) := HX0.out.kp hk1 hXR (by decide)
  clear hw1 hk1 z0 z1 z2 z3 z4 z5
  have z0 := HX1.out.c 0 _ rfl
  have z1 := HX1.out.c 1 _ rfl
  have z2 := HX1.out.c 2 _ rfl
  have z3 := HX1.out.c 3 _ rfl
  have z4 := HX1.out.c 4 _ rfl
  have z5 := HX1.out.c 5 _ rfl
  have kt := wtests_any wh _ HW1.out (TI.keep HT.out HK1.out.b) HOK.out (HG.out.bel h5 HK1.out.b) (HP.out.on HK1.out.b) h5
  rw [HL.out] at kt
  go_wp2_with fail
  refine kt.mono ?_
  rintro e w9 (⟨rfl, hw9, hk9⟩ | ⟨rfl, hn9, hb9⟩)
  · go_wp2
    go_end0
    exact .inl ⟨rfl, hw9, HK1.out.trans hk9⟩
  · go_wp2
    exact ⟨rfl, .inr ⟨rfl, hn9, HK1.out.b.trans hb9⟩⟩
set_option maxHeartbeats 2000000 in
set_option maxRecDepth 100000 in
theorem qw5 {B R : Nat} (h5 : 5 ≤ B) (c : By) (lo hi : Int) (wh : List Tst) (x y : Qu) (hX : QW B R x) (hY : QW B R y) (w : World) (l : List By) (cs : List Value) (h : Wg B R l w) (hI : QI w B (.node 5 c lo hi wh 2 x y) cs) (hok : ∀ t ∈ wh, TOk t) (hG : Glo w) (hpt : PT B w) : Calls Tryz.prog 35 #[.pointer (some ⟨R, 0, none⟩), .agg cs.toArray] w (WgP B R w (l ++ qtx x ++ [sMinus] ++ wtx (isS y) y ++ chx wh)) := by
  have HI : Hid (QI w B (.node 5 c lo hi wh 2 x y) cs) := hI
  obtain ⟨wv, ka, kc, rfl, hT, hnk, hn63, hc60, hk64, hl64, hh64, hx0, hy0, hkids⟩ := hI
  obtain ⟨b, ob, rfl, hbB, ⟨xs, hxq, hxc⟩, hyy⟩ := hkids (by omega) (by omega)
  have HXQ : Hid (QI w B x xs) := hxq
  obtain ⟨kx, cx, lox, hix, wax, wnx, wcx, kax, knx, kcx, rfl⟩ := hxq.six
  have HXC : Hid (∀ (j : Nat) u, ([.int .i64 kx, .string (tx cx), .int .i64 lox, .int .i64 hix, .slice wax wnx wcx, .slice kax knx kcx] : List Value)[j]? = some u → w.cell? ⟨b, ob + j, none⟩ = some u) := hxc
  obtain ⟨ys, hyq, hyc⟩ := hyy (by omega)
  have HYQ : Hid (QI w B y ys) := hyq
  obtain ⟨ky, cy, loy, hiy, way, wny, wcy, kay, kny, kcy, rfl⟩ := hyq.six
  have HYC : Hid (∀ (j : Nat) u, ([.int .i64 ky, .string (tx cy), .int .i64 loy, .int .i64 hiy, .slice way wny wcy, .slice kay kny kcy] : List Value)[j]? = some u → w.cell? ⟨b, ob + 6 + j, none⟩ = some u) := hyc
  clear hyq hyc
  clear hxq hxc hyy
  have HT : Hid (TI w B wh wv) := hT
  obtain ⟨wa, wc, rfl, hwc, hw63, _, _⟩ := hT
  have HOK : Hid (∀ t ∈ wh, TOk t) := hok
  have HG : Hid (Glo w) := hG
  have HP : Hid (PT B w) := hpt
  have HW : Hid (Wg B R l w) := h
  obtain ⟨L, hL⟩ : ∃ L, l ++ qtx x ++ [sMinus] ++ wtx (isS y) y ++ chx wh = L := ⟨_, rfl⟩
  have HL : Hid (l ++ qtx x ++ [sMinus] ++ wtx (isS y) y ++ chx wh = L) := hL
  have HE1 : Hid (∃ r, l ++ qtx x ++ r = L) := ⟨[sMinus] ++ (wtx (isS y) y ++ (chx wh)), by simp only [← hL, List.append_assoc]⟩
  have HE2 : Hid (∃ r, l ++ qtx x ++ [sMinus] ++ r = L) := ⟨wtx (isS y) y ++ (chx wh), by simp only [← hL, List.append_assoc]⟩
  have HE3 : Hid (∃ r, l ++ qtx x ++ [sMinus] ++ wtx (isS y) y ++ r = L) := ⟨chx wh, by simp only [← hL, List.append_assoc]⟩
  rw [hL]
  obtain ⟨wl, hwl⟩ : ∃ wl, wh.length = wl := ⟨_, rfl⟩
  have HWL : Hid (wh.length = wl) := hwl
  rw [hwl] at HI HT hwc hw63 ⊢
  obtain ⟨W0, hW0⟩ : ∃ W0, w.alloc (.cells #[.int .i64 5, .string (tx c), .int .i64 lo, .int .i64 hi, .slice wa wl wc, .slice (some ⟨b, ob, none⟩) 2 kc] 25) = W0 := ⟨_, rfl⟩
  have hb0 : Below w.heap.size w W0 := hW0 ▸ ba _ _
  have HX0 : Hid (Kbx W0 w.heap.size #[.int .i64 5, .string (tx c), .int .i64 lo, .int .i64 hi, .slice wa wl wc, .slice (some ⟨b, ob, none⟩) 2 kc] 25) := hW0 ▸ Kbx.new w _ _
  have hXR : w.heap.size ≠ R := Nat.ne_of_gt HW.out.t.lt
  have HW0 : Hid (Wg B R l W0) := HW.out.at hb0
  have HK0 : Hid (Kpw B R w W0) := HW.out.kp hb0
  have z0 := HX0.out.c 0 _ rfl
  have z1 := HX0.out.c 1 _ rfl
  have z2 := HX0.out.c 2 _ rfl
  have z3 := HX0.out.c 3 _ rfl
  have z4 := HX0.out.c 4 _ rfl
  have z5 := HX0.out.c 5 _ rfl
  clear hok hG hpt h hb0 hL hwl hx0 hy0
  have HQX : Hid (QW B R x) := hX
  have HQY : Hid (QW B R y) := hY
  clear hX hY HE1 HE2
  go_enter Tryz.func35, Tryz.ntmps35
  go_wp2_with fail
  clear hW0
  refine q11 (fun _ _ d _ _ h => by cases d <;> exact h) _ _ _ _ _ _ _ _ _ _ _ _ _ _ _ _ _ _ _ _ _ _ _ _ _ _ _ _ _ _ _ _ _ _ _ _ _ _ _ _ _ _ _ _ _ _ _ _ _ _ _ _ _ _ _ _ _ _ _ _ _ _ _ _ _ _ _ _ _ _ _ _ _ _ _ _ _ _ _ _ _ _ _ _ _ _ _ _ _ _ _ _ _ _ _ _ _ _ _ _ _ _ _ _ _ _ _ _ _ _ _ _ _ _ _ _ _ _ _ _ _ _ _ _ _ _ _ _ _ _ _ _ _ _ _ _ _ _ _ _ _ _ _ _ _ _ W0 B R HW0.out.le w.heap.size b ob kc kx cx lox hix wax wnx wcx kax knx kcx ky cy loy hiy way wny wcy kay kny kcy (l ++ qtx x ++ [sMinus] ++ wtx (isS y) y)
    (fun W hW => (HX0.out.kp hW hXR (by decide)).c 5 _ rfl)
    (fun W hW => ((HK0.out.trans hW).b.cell (p := ⟨b, ob + 0, none⟩) hbB).trans (HXC.out 0 _ rfl)) (fun W hW => ((HK0.out.trans hW).b.cell (p := ⟨b, ob + 1, none⟩) hbB).trans (HXC.out 1 _ rfl)) (fun W hW => ((HK0.out.trans hW).b.cell (p := ⟨b, ob + 2, none⟩) hbB).trans (HXC.out 2 _ rfl)) (fun W hW => ((HK0.out.trans hW).b.cell (p := ⟨b, ob + 3, none⟩) hbB).trans (HXC.out 3 _ rfl)) (fun W hW => ((HK0.out.trans hW).b.cell (p := ⟨b, ob + 4, none⟩) hbB).trans (HXC.out 4 _ rfl)) (fun W hW => ((HK0.out.trans hW).b.cell (p := ⟨b, ob + 5, none⟩) hbB).trans (HXC.out 5 _ rfl))
    (fun W hW => ((HK0.out.trans hW).b.cell (p := ⟨b, ob + 6 + 0, none⟩) hbB).trans (HYC.out 0 _ rfl)) (fun W hW => ((HK0.out.trans hW).b.cell (p := ⟨b, ob + 6 + 1, none⟩) hbB).trans (HYC.out 1 _ rfl)) (fun W hW => ((HK0.out.trans hW).b.cell (p := ⟨b, ob + 6 + 2, none⟩) hbB).trans (HYC.out 2 _ rfl)) (fun W hW => ((HK0.out.trans hW).b.cell (p := ⟨b, ob + 6 + 3, none⟩) hbB).trans (HYC.out 3 _ rfl)) (fun W hW => ((HK0.out.trans hW).b.cell (p := ⟨b, ob + 6 + 4, none⟩) hbB).trans (HYC.out 4 _ rfl)) (fun W hW => ((HK0.out.trans hW).b.cell (p := ⟨b, ob + 6 + 5, none⟩) hbB).trans (HYC.out 5 _ rfl))
    (fun W hW => sum_of HQX.out HQY.out h5 _ (by decide) W _ _ _ (HW0.out.at hW) (QI.keep (HK0.out.b.trans (hW.mono HW0.out.le)) x HXQ.out) (QI.keep (HK0.out.b.trans (hW.mono HW0.out.le)) y HYQ.out) (HG.out.bel h5 (HK0.out.b.trans (hW.mono HW0.out.le))) (HP.out.on (HK0.out.b.trans (hW.mono HW0.out.le)))) ?_ ?_
  rotate_left
  · exact fun a W hd hn hb => ⟨hd, WgP.pre HE3.out hn (HK0.out.b.trans hb)⟩
  intro w1 hw1 hk1
  have HW1 : Hid (Wg B R (l ++ qtx x ++ [sMinus] ++ wtx (isS y) y) w1) := hw1
  have HK1 : Hid (Kpw B R w w1) := HK0.out.trans hk1
  have HX1 : Hid (Kbx w1 w.heap.size #[.int .i64 5, .string (tx c), .int .i64 lo, .int .i64 hi, .slice wa wl wc, .slice (some ⟨b, ob, none⟩) 2 kc] 25) := HX0.out.kp hk1 hXR (by decide)
  clear hw1 hk1 z0 z1 z2 z3 z4 z5
  have z0 := HX1.out.c 0 _ rfl
  have z1 := HX1.out.c 1 _ rfl
  have z2 := HX1.out.c 2 _ rfl
  have z3 := HX1.out.c 3 _ rfl
  have z4 := HX1.out.c 4 _ rfl
  have z5 := HX1.out.c 5 _ rfl
  have kt := wtests_any wh _ HW1.out (TI.keep HT.out HK1.out.b) HOK.out (HG.out.bel h5 HK1.out.b) (HP.out.on HK1.out.b) h5
  rw [HL.out] at kt
  go_wp2_with fail
  refine kt.mono ?_
  rintro e w9 (⟨rfl, hw9, hk9⟩ | ⟨rfl, hn9, hb9⟩)
  · go_wp2
    go_end0
    exact .inl ⟨rfl, hw9, HK1.out.trans hk9⟩
  · go_wp2
    exact ⟨rfl, .inr ⟨rfl, hn9, HK1.out.b.trans hb9⟩⟩
set_option maxHeartbeats 2000000 in
set_option maxRecDepth 100000 in
theorem qw6 {B R : Nat} (h5 : 5 ≤ B) (c : By) (lo hi : Int) (wh : List Tst) (x y : Qu) (ai : By) (hai : itoa lo = ai) (hX : QW B R x) (w : World) (l : List By) (cs : List Value) (h : Wg B R l w) (hI : QI w B (.node 6 c lo hi wh 1 x y) cs) (hok : ∀ t ∈ wh, TOk t) (hG : Glo w) (hpt : PT B w) : Calls Tryz.prog 35 #[.pointer (some ⟨R, 0, none⟩), .agg cs.toArray] w (WgP B R w (l ++ [ai, sStar] ++ wtx (isS x) x ++ chx wh)) := by
  have HI : Hid (QI w B (.node 6 c lo hi wh 1 x y) cs) := hI
  obtain ⟨wv, ka, kc, rfl, hT, hnk, hn63, hc60, hk64, hl64, hh64, hx0, hy0, hkids⟩ := hI
  obtain ⟨b, ob, rfl, hbB, ⟨xs, hxq, hxc⟩, hyy⟩ := hkids (by omega) (by omega)
  have HXQ : Hid (QI w B x xs) := hxq
  obtain ⟨kx, cx, lox, hix, wax, wnx, wcx, kax, knx, kcx, rfl⟩ := hxq.six
  have HXC : Hid (∀ (j : Nat) u, ([.int .i64 kx, .string (tx cx), .int .i64 lox, .int .i64 hix, .slice wax wnx wcx, .slice kax knx kcx] : List Value)[j]? = some u → w.cell? ⟨b, ob + j, none⟩ = some u) := hxc
  clear hxq hxc hyy
  have HT : Hid (TI w B wh wv) := hT
  obtain ⟨wa, wc, rfl, hwc, hw63, _, _⟩ := hT
  have HOK : Hid (∀ t ∈ wh, TOk t) := hok
  have HG : Hid (Glo w) := hG
  have HP : Hid (PT B w) := hpt
  have HW : Hid (Wg B R l w) := h
  obtain ⟨L, hL⟩ : ∃ L, l ++ [ai, sStar] ++ wtx (isS x) x ++ chx wh = L := ⟨_, rfl⟩
  have HL : Hid (l ++ [ai, sStar] ++ wtx (isS x) x ++ chx wh = L) := hL
  have HE1 : Hid (∃ r, l ++ [ai, sStar] ++ r = L) := ⟨wtx (isS x) x ++ (chx wh), by simp only [← hL, List.append_assoc]⟩
  have HE2 : Hid (∃ r, l ++ [ai, sStar] ++ wtx (isS x) x ++ r = L) := ⟨chx wh, by simp only [← hL, List.append_assoc]⟩
  rw [hL]
  obtain ⟨wl, hwl⟩ : ∃ wl, wh.length = wl := ⟨_, rfl⟩
  have HWL : Hid (wh.length = wl) := hwl
  rw [hwl] at HI HT hwc hw63 ⊢
  obtain ⟨W0, hW0⟩ : ∃ W0, w.alloc (.cells #[.int .i64 6, .string (tx c), .int .i64 lo, .int .i64 hi, .slice wa wl wc, .slice (some ⟨b, ob, none⟩) 1 kc] 25) = W0 := ⟨_, rfl⟩
  have hb0 : Below w.heap.size w W0 := hW0 ▸ ba _ _
  have HX0 : Hid (Kbx W0 w.heap.size #[.int .i64 6, .string (tx c), .int .i64 lo, .int .i64 hi, .slice wa wl wc, .slice (some ⟨b, ob, none⟩) 1 kc] 25) := hW0 ▸ Kbx.new w _ _
  have hXR : w.heap.size ≠ R := Nat.ne_of_gt HW.out.t.lt
  have HW0 : Hid (Wg B R l W0) := HW.out.at hb0
  have HK0 : Hid (Kpw B R w W0) := HW.out.kp hb0
  have z0 := HX0.out.c 0 _ rfl
  have z1 := HX0.out.c 1 _ rfl
  have z2 := HX0.out.c 2 _ rfl
  have z3 := HX0.out.c 3 _ rfl
  have z4 := HX0.out.c 4 _ rfl
  have z5 := HX0.out.c 5 _ rfl
  clear hok hG hpt h hb0 hL hwl hx0 hy0
  have HQX : Hid (QW B R x) := hX
  have hail : ai.length ≤ 65536 := by have := itoa_len hl64.1 hl64.2; rw [hai] at this; omega
  have HSS : Hid (∀ s ∈ [ai, sStar], s.length ≤ 65536) := by
    intro s hs
    simp only [List.mem_cons, List.not_mem_nil, or_false] at hs
    rcases hs with rfl | rfl
    · exact hail
    · decide
  have HB : Hid ((decide (kx = 4) || decide (kx = 5)) = isS x) := isS_of HXQ.out
  have ki := itoa_any B lo hl64.1 hl64.2 W0 (HP.out.on HK0.out.b)
  rw [hai] at ki
  clear hX hai hail
  go_enter Tryz.func35, Tryz.ntmps35
  go_wp2_with fail
  clear hW0
  refine ki.mono ?_
  rintro e w1 ⟨rfl, hb1⟩
  have HW1 : Hid (Wg B R (l) w1) := HW0.out.at hb1
  have HK1 : Hid (Kpw B R w w1) := HK0.out.trans (HW0.out.kp hb1)
  have HX1 : Hid (Kbx w1 w.heap.size #[.int .i64 6, .string (tx c), .int .i64 lo, .int .i64 hi, .slice wa wl wc, .slice (some ⟨b, ob, none⟩) 1 kc] 25) := HX0.out.at hb1
  clear hb1 ki z0 z1 z2 z3 z4 z5
  have z0 := HX1.out.c 0 _ rfl
  have z1 := HX1.out.c 1 _ rfl
  have z2 := HX1.out.c 2 _ rfl
  have z3 := HX1.out.c 3 _ rfl
  have z4 := HX1.out.c 4 _ rfl
  have z5 := HX1.out.c 5 _ rfl
  have kp := put_new HW1.out [ai, sStar] #[.string (tx ai), .string (tx sStar)] rfl 2 rfl (by omega) HSS.out
  go_wp2_with fail
  refine kp.mono ?_
  rintro e w2 (⟨rfl, hw2, hk2⟩ | ⟨rfl, hn2, hb2⟩)
  rotate_left
  · go_wp2
    exact ⟨rfl, WgP.pre HE1.out hn2 (HK1.out.b.trans hb2)⟩
  have HW2 : Hid (Wg B R (l ++ [ai, sStar]) w2) := hw2
  have HK2 : Hid (Kpw B R w w2) := HK1.out.trans hk2
  have HX2 : Hid (Kbx w2 w.heap.size #[.int .i64 6, .string (tx c), .int .i64 lo, .int .i64 hi, .slice wa wl wc, .slice (some ⟨b, ob, none⟩) 1 kc] 25) := HX1.out.kp hk2 hXR (by decide)
  clear hw2 hk2 z0 z1 z2 z3 z4 z5
  have z0 := HX2.out.c 0 _ rfl
  have z1 := HX2.out.c 1 _ rfl
  have z2 := HX2.out.c 2 _ rfl
  have z3 := HX2.out.c 3 _ rfl
  have z4 := HX2.out.c 4 _ rfl
  have z5 := HX2.out.c 5 _ rfl
  clear kp
  go_wp2_with fail
  refine q14 (fun _ _ d _ _ h => by cases d <;> exact h) _ _ _ _ _ _ _ _ _ _ _ _ _ _ _ _ _ _ _ _ _ _ _ _ _ _ _ _ _ _ _ _ _ _ _ _ _ _ _ _ _ _ _ _ _ _ _ _ _ _ _ _ _ _ _ _ _ _ _ _ _ _ _ _ _ _ _ _ _ _ _ _ _ _ _ _ _ _ _ _ _ _ _ _ _ _ _ _ _ _ _ _ _ _ _ _ _ _ _ _ _ _ _ _ _ _ _ _ _ _ _ _ _ _ _ _ _ _ _ _ _ _ _ _ _ _ _ _ _ _ _ _ _ _ _ _ _ _ _ _ _ _ _ _ _ _ w2 B R HW2.out.le w.heap.size b ob kc kx cx lox hix wax wnx wcx kax knx kcx (l ++ [ai, sStar] ++ wtx (isS x) x) (isS x)
    (fun W hW => (HX2.out.kp hW hXR (by decide)).c 5 _ rfl)
    (fun W hW => ((HK2.out.trans hW).b.cell (p := ⟨b, ob + 0, none⟩) hbB).trans (HXC.out 0 _ rfl)) (fun W hW => ((HK2.out.trans hW).b.cell (p := ⟨b, ob + 1, none⟩) hbB).trans (HXC.out 1 _ rfl)) (fun W hW => ((HK2.out.trans hW).b.cell (p := ⟨b, ob + 2, none⟩) hbB).trans (HXC.out 2 _ rfl)) (fun W hW => ((HK2.out.trans hW).b.cell (p := ⟨b, ob + 3, none⟩) hbB).trans (HXC.out 3 _ rfl)) (fun W hW => ((HK2.out.trans hW).b.cell (p := ⟨b, ob + 4, none⟩) hbB).trans (HXC.out 4 _ rfl)) (fun W hW => ((HK2.out.trans hW).b.cell (p := ⟨b, ob + 5, none⟩) hbB).trans (HXC.out 5 _ rfl))
    (fun W _ => isSum_any _ _ _ _ _ _ _ HB.out W) (fun W hW => within_of HQX.out h5 (isS x) W _ _ (HW2.out.at hW) (QI.keep (HK2.out.b.trans (hW.mono HW2.out.le)) x HXQ.out) (HG.out.bel h5 (HK2.out.b.trans (hW.mono HW2.out.le))) (HP.out.on (HK2.out.b.trans (hW.mono HW2.out.le)))) ?_ ?_
  rotate_left
  · exact fun a W hd hn hb => ⟨hd, WgP.pre HE2.out hn (HK2.out.b.trans hb)⟩
  intro w3 hw3 hk3
  have HW3 : Hid (Wg B R (l ++ [ai, sStar] ++ wtx (isS x) x) w3) := hw3
  have HK3 : Hid (Kpw B R w w3) := HK2.out.trans hk3
  have HX3 : Hid (Kbx w3 w.heap.size #[.int .i64 6, .string (tx c), .int .i64 lo, .int .i64 hi, .slice wa wl wc, .slice (some ⟨b, ob, none⟩) 1 kc] 25) := HX2.out.kp hk3 hXR (by decide)
  clear hw3 hk3 z0 z1 z2 z3 z4 z5
  have z0 := HX3.out.c 0 _ rfl
  have z1 := HX3.out.c 1 _ rfl
  have z2 := HX3.out.c 2 _ rfl
  have z3 := HX3.out.c 3 _ rfl
  have z4 := HX3.out.c 4 _ rfl
  have z5 := HX3.out.c 5 _ rfl
  have kt := wtests_any wh _ HW3.out (TI.keep HT.out HK3.out.b) HOK.out (HG.out.bel h5 HK3.out.b) (HP.out.on HK3.out.b) h5
  rw [HL.out] at kt
  go_wp2_with fail
  refine kt.mono ?_
  rintro e w9 (⟨rfl, hw9, hk9⟩ | ⟨rfl, hn9, hb9⟩)
  · go_wp2
    go_end0
    exact .inl ⟨rfl, hw9, HK3.out.trans hk9⟩
  · go_wp2
    exact ⟨rfl, .inr ⟨rfl, hn9, HK3.out.b.trans hb9⟩⟩
set_option maxHeartbeats 2000000 in
set_option maxRecDepth 100000 in
theorem qw8 {B R : Nat} (h5 : 5 ≤ B) (c : By) (lo hi : Int) (wh : List Tst) (x y : Qu) (hX : QW B R x) (w : World) (l : List By) (cs : List Value) (h : Wg B R l w) (hI : QI w B (.node 8 c lo hi wh 1 x y) cs) (hok : ∀ t ∈ wh, TOk t) (hG : Glo w) (hpt : PT B w) : Calls Tryz.prog 35 #[.pointer (some ⟨R, 0, none⟩), .agg cs.toArray] w (WgP B R w (l ++ [wTotal] ++ wtx true x ++ chx wh)) := by
  have HI : Hid (QI w B (.node 8 c lo hi wh 1 x y) cs) := hI
  obtain ⟨wv, ka, kc, rfl, hT, hnk, hn63, hc60, hk64, hl64, hh64, hx0, hy0, hkids⟩ := hI
  obtain ⟨b, ob, rfl, hbB, ⟨xs, hxq, hxc⟩, hyy⟩ := hkids (by omega) (by omega)
  have HXQ : Hid (QI w B x xs) := hxq
  obtain ⟨kx, cx, lox, hix, wax, wnx, wcx, kax, knx, kcx, rfl⟩ := hxq.six
  have HXC : Hid (∀ (j : Nat) u, ([.int .i64 kx, .string (tx cx), .int .i64 lox, .int .i64 hix, .slice wax wnx wcx, .slice kax knx kcx] : List Value)[j]? = some u → w.cell? ⟨b, ob + j, none⟩ = some u) := hxc
  clear hxq hxc hyy
  have HT : Hid (TI w B wh wv) := hT
  obtain ⟨wa, wc, rfl, hwc, hw63, _, _⟩ := hT
  have HOK : Hid (∀ t ∈ wh, TOk t) := hok
  have HG : Hid (Glo w) := hG
  have HP : Hid (PT B w) := hpt
  have HW : Hid (Wg B R l w) := h
  obtain ⟨L, hL⟩ : ∃ L, l ++ [wTotal] ++ wtx true x ++ chx wh = L := ⟨_, rfl⟩
  have HL : Hid (l ++ [wTotal] ++ wtx true x ++ chx wh = L) := hL
  have HE1 : Hid (∃ r, l ++ [wTotal] ++ r = L) := ⟨wtx true x ++ (chx wh), by simp only [← hL, List.append_assoc]⟩
  have HE2 : Hid (∃ r, l ++ [wTotal] ++ wtx true x ++ r = L) := ⟨chx wh, by simp only [← hL, List.append_assoc]⟩
  rw [hL]
  obtain ⟨wl, hwl⟩ : ∃ wl, wh.length = wl := ⟨_, rfl⟩
  have HWL : Hid (wh.length = wl) := hwl
  rw [hwl] at HI HT hwc hw63 ⊢
  obtain ⟨W0, hW0⟩ : ∃ W0, w.alloc (.cells #[.int .i64 8, .string (tx c), .int .i64 lo, .int .i64 hi, .slice wa wl wc, .slice (some ⟨b, ob, none⟩) 1 kc] 25) = W0 := ⟨_, rfl⟩
  have hb0 : Below w.heap.size w W0 := hW0 ▸ ba _ _
  have HX0 : Hid (Kbx W0 w.heap.size #[.int .i64 8, .string (tx c), .int .i64 lo, .int .i64 hi, .slice wa wl wc, .slice (some ⟨b, ob, none⟩) 1 kc] 25) := hW0 ▸ Kbx.new w _ _
  have hXR : w.heap.size ≠ R := Nat.ne_of_gt HW.out.t.lt
  have HW0 : Hid (Wg B R l W0) := HW.out.at hb0
  have HK0 : Hid (Kpw B R w W0) := HW.out.kp hb0
  have z0 := HX0.out.c 0 _ rfl
  have z1 := HX0.out.c 1 _ rfl
  have z2 := HX0.out.c 2 _ rfl
  have z3 := HX0.out.c 3 _ rfl
  have z4 := HX0.out.c 4 _ rfl
  have z5 := HX0.out.c 5 _ rfl
  clear hok hG hpt h hb0 hL hwl hx0 hy0
  have HQX : Hid (QW B R x) := hX
  clear hX
  have kp := put_new HW0.out [wTotal] #[.string (tx wTotal)] rfl 1 rfl (by omega) (by decide)
  go_enter Tryz.func35, Tryz.ntmps35
  go_wp2_with fail
  clear hW0
  refine kp.mono ?_
  rintro e w1 (⟨rfl, hw1, hk1⟩ | ⟨rfl, hn1, hb1⟩)
  rotate_left
  · go_wp2
    exact ⟨rfl, WgP.pre HE1.out hn1 (HK0.out.b.trans hb1)⟩
  have HW1 : Hid (Wg B R (l ++ [wTotal]) w1) := hw1
  have HK1 : Hid (Kpw B R w w1) := HK0.out.trans hk1
  have HX1 : Hid (Kbx w1 w.heap.size #[.int .i64 8, .string (tx c), .int .i64 lo, .int .i64 hi, .slice wa wl wc, .slice (some ⟨b, ob, none⟩) 1 kc] 25) := HX0.out.kp hk1 hXR (by decide)
  clear hw1 hk1 z0 z1 z2 z3 z4 z5
  have z0 := HX1.out.c 0 _ rfl
  have z1 := HX1.out.c 1 _ rfl
  have z2 := HX1.out.c 2 _ rfl
  have z3 := HX1.out.c 3 _ rfl
  have z4 := HX1.out.c 4 _ rfl
  have z5 := HX1.out.c 5 _ rfl
  clear kp
  have u0 := (HK1.out.b.cell (p := ⟨b, ob + 0, none⟩) hbB).trans (HXC.out 0 _ rfl)
  have u1 := (HK1.out.b.cell (p := ⟨b, ob + 1, none⟩) hbB).trans (HXC.out 1 _ rfl)
  have u2 := (HK1.out.b.cell (p := ⟨b, ob + 2, none⟩) hbB).trans (HXC.out 2 _ rfl)
  have u3 := (HK1.out.b.cell (p := ⟨b, ob + 3, none⟩) hbB).trans (HXC.out 3 _ rfl)
  have u4 := (HK1.out.b.cell (p := ⟨b, ob + 4, none⟩) hbB).trans (HXC.out 4 _ rfl)
  have u5 := (HK1.out.b.cell (p := ⟨b, ob + 5, none⟩) hbB).trans (HXC.out 5 _ rfl)
  simp only [Nat.add_zero] at u0
  have kw := within_of HQX.out h5 true w1 _ _ HW1.out (QI.keep HK1.out.b x HXQ.out) (HG.out.bel h5 HK1.out.b) (HP.out.on HK1.out.b)
  go_wp2_with fail
  refine kw.mono ?_
  rintro e w2 (⟨rfl, hw2, hk2⟩ | ⟨rfl, hn2, hb2⟩)
  rotate_left
  · go_wp2
    exact ⟨rfl, WgP.pre HE2.out hn2 (HK1.out.b.trans hb2)⟩
  have HW2 : Hid (Wg B R (l ++ [wTotal] ++ wtx true x) w2) := hw2
  have HK2 : Hid (Kpw B R w w2) := HK1.out.trans hk2
  have HX2 : Hid (Kbx w2 w.heap.size #[.int .i64 8, .string (tx c), .int .i64 lo, .int .i64 hi, .slice wa wl wc, .slice (some ⟨b, ob, none⟩) 1 kc] 25) := HX1.out.kp hk2 hXR (by decide)
  clear hw2 hk2 z0 z1 z2 z3 z4 z5
  have z0 := HX2.out.c 0 _ rfl
  have z1 := HX2.out.c 1 _ rfl
  have z2 := HX2.out.c 2 _ rfl
  have z3 := HX2.out.c 3 _ rfl
  have z4 := HX2.out.c 4 _ rfl
  have z5 := HX2.out.c 5 _ rfl
  clear kw u0 u1 u2 u3 u4 u5
  have kt := wtests_any wh _ HW2.out (TI.keep HT.out HK2.out.b) HOK.out (HG.out.bel h5 HK2.out.b) (HP.out.on HK2.out.b) h5
  rw [HL.out] at kt
  go_wp2_with fail
  refine kt.mono ?_
  rintro e w9 (⟨rfl, hw9, hk9⟩ | ⟨rfl, hn9, hb9⟩)
  · go_wp2
    go_end0
    exact .inl ⟨rfl, hw9, HK2.out.trans hk9⟩
  · go_wp2
    exact ⟨rfl, .inr ⟨rfl, hn9, HK2.out.b.trans hb9⟩⟩
set_option maxHeartbeats 2000000 in
set_option maxRecDepth 100000 in
theorem qw10 {B R : Nat} (h5 : 5 ≤ B) (c : By) (lo hi : Int) (wh : List Tst) (x y : Qu) (sp : By) (hsp : itoa lo ++ (sDots ++ itoa hi) = sp) (hX : QW B R x) (w : World) (l : List By) (cs : List Value) (h : Wg B R l w) (hI : QI w B (.node 10 c lo hi wh 1 x y) cs) (hok : ∀ t ∈ wh, TOk t) (hG : Glo w) (hpt : PT B w) : Calls Tryz.prog 35 #[.pointer (some ⟨R, 0, none⟩), .agg cs.toArray] w (WgP B R w (l ++ [wClamp, sp] ++ wtx true x ++ chx wh)) := by
  have HI : Hid (QI w B (.node 10 c lo hi wh 1 x y) cs) := hI
  obtain ⟨wv, ka, kc, rfl, hT, hnk, hn63, hc60, hk64, hl64, hh64, hx0, hy0, hkids⟩ := hI
  obtain ⟨b, ob, rfl, hbB, ⟨xs, hxq, hxc⟩, hyy⟩ := hkids (by omega) (by omega)
  have HXQ : Hid (QI w B x xs) := hxq
  obtain ⟨kx, cx, lox, hix, wax, wnx, wcx, kax, knx, kcx, rfl⟩ := hxq.six
  have HXC : Hid (∀ (j : Nat) u, ([.int .i64 kx, .string (tx cx), .int .i64 lox, .int .i64 hix, .slice wax wnx wcx, .slice kax knx kcx] : List Value)[j]? = some u → w.cell? ⟨b, ob + j, none⟩ = some u) := hxc
  clear hxq hxc hyy
  have HT : Hid (TI w B wh wv) := hT
  obtain ⟨wa, wc, rfl, hwc, hw63, _, _⟩ := hT
  have HOK : Hid (∀ t ∈ wh, TOk t) := hok
  have HG : Hid (Glo w) := hG
  have HP : Hid (PT B w) := hpt
  have HW : Hid (Wg B R l w) := h
  obtain ⟨L, hL⟩ : ∃ L, l ++ [wClamp, sp] ++ wtx true x ++ chx wh = L := ⟨_, rfl⟩
  have HL : Hid (l ++ [wClamp, sp] ++ wtx true x ++ chx wh = L) := hL
  have HE1 : Hid (∃ r, l ++ [wClamp, sp] ++ r = L) := ⟨wtx true x ++ (chx wh), by simp only [← hL, List.append_assoc]⟩
  have HE2 : Hid (∃ r, l ++ [wClamp, sp] ++ wtx true x ++ r = L) := ⟨chx wh, by simp only [← hL, List.append_assoc]⟩
  rw [hL]
  obtain ⟨wl, hwl⟩ : ∃ wl, wh.length = wl := ⟨_, rfl⟩
  have HWL : Hid (wh.length = wl) := hwl
  rw [hwl] at HI HT hwc hw63 ⊢
  obtain ⟨W0, hW0⟩ : ∃ W0, w.alloc (.cells #[.int .i64 10, .string (tx c), .int .i64 lo, .int .i64 hi, .slice wa wl wc, .slice (some ⟨b, ob, none⟩) 1 kc] 25) = W0 := ⟨_, rfl⟩
  have hb0 : Below w.heap.size w W0 := hW0 ▸ ba _ _
  have HX0 : Hid (Kbx W0 w.heap.size #[.int .i64 10, .string (tx c), .int .i64 lo, .int .i64 hi, .slice wa wl wc, .slice (some ⟨b, ob, none⟩) 1 kc] 25) := hW0 ▸ Kbx.new w _ _
  have hXR : w.heap.size ≠ R := Nat.ne_of_gt HW.out.t.lt
  have HW0 : Hid (Wg B R l W0) := HW.out.at hb0
  have HK0 : Hid (Kpw B R w W0) := HW.out.kp hb0
  have z0 := HX0.out.c 0 _ rfl
  have z1 := HX0.out.c 1 _ rfl
  have z2 := HX0.out.c 2 _ rfl
  have z3 := HX0.out.c 3 _ rfl
  have z4 := HX0.out.c 4 _ rfl
  have z5 := HX0.out.c 5 _ rfl
  clear hok hG hpt h hb0 hL hwl hx0 hy0
  have HQX : Hid (QW B R x) := hX
  have hspl : sp.length ≤ 65536 := by
    rw [← hsp]
    have l1 := itoa_len hl64.1 hl64.2
    have l2 := itoa_len hh64.1 hh64.2
    simp only [List.length_append, List.length_cons, List.length_nil]
    omega
  have HSS : Hid (∀ s ∈ [wClamp, sp], s.length ≤ 65536) := by
    intro s hs
    simp only [List.mem_cons, List.not_mem_nil, or_false] at hs
    rcases hs with rfl | rfl
    · decide
    · exact hspl
  have ki := wspan_any B 10 c lo hi (.slice wa wl wc) (.slice (some ⟨b, ob, none⟩) 1 kc) hl64 hh64 W0 HW0.out.le (HP.out.on HK0.out.b)
  rw [hsp] at ki
  clear hX hsp hspl
  go_enter Tryz.func35, Tryz.ntmps35
  go_wp2_with fail
  clear hW0
  refine ki.mono ?_
  rintro e w1 ⟨rfl, hb1⟩
  have HW1 : Hid (Wg B R (l) w1) := HW0.out.at hb1
  have HK1 : Hid (Kpw B R w w1) := HK0.out.trans (HW0.out.kp hb1)
  have HX1 : Hid (Kbx w1 w.heap.size #[.int .i64 10, .string (tx c), .int .i64 lo, .int .i64 hi, .slice wa wl wc, .slice (some ⟨b, ob, none⟩) 1 kc] 25) := HX0.out.at hb1
  clear hb1 ki z0 z1 z2 z3 z4 z5
  have z0 := HX1.out.c 0 _ rfl
  have z1 := HX1.out.c 1 _ rfl
  have z2 := HX1.out.c 2 _ rfl
  have z3 := HX1.out.c 3 _ rfl
  have z4 := HX1.out.c 4 _ rfl
  have z5 := HX1.out.c 5 _ rfl
  have kp := put_new HW1.out [wClamp, sp] #[.string (tx wClamp), .string (tx sp)] rfl 2 rfl (by omega) HSS.out
  go_wp2_with fail
  refine kp.mono ?_
  rintro e w2 (⟨rfl, hw2, hk2⟩ | ⟨rfl, hn2, hb2⟩)
  rotate_left
  · go_wp2
    exact ⟨rfl, WgP.pre HE1.out hn2 (HK1.out.b.trans hb2)⟩
  have HW2 : Hid (Wg B R (l ++ [wClamp, sp]) w2) := hw2
  have HK2 : Hid (Kpw B R w w2) := HK1.out.trans hk2
  have HX2 : Hid (Kbx w2 w.heap.size #[.int .i64 10, .string (tx c), .int .i64 lo, .int .i64 hi, .slice wa wl wc, .slice (some ⟨b, ob, none⟩) 1 kc] 25) := HX1.out.kp hk2 hXR (by decide)
  clear hw2 hk2 z0 z1 z2 z3 z4 z5
  have z0 := HX2.out.c 0 _ rfl
  have z1 := HX2.out.c 1 _ rfl
  have z2 := HX2.out.c 2 _ rfl
  have z3 := HX2.out.c 3 _ rfl
  have z4 := HX2.out.c 4 _ rfl
  have z5 := HX2.out.c 5 _ rfl
  clear kp
  have u0 := (HK2.out.b.cell (p := ⟨b, ob + 0, none⟩) hbB).trans (HXC.out 0 _ rfl)
  have u1 := (HK2.out.b.cell (p := ⟨b, ob + 1, none⟩) hbB).trans (HXC.out 1 _ rfl)
  have u2 := (HK2.out.b.cell (p := ⟨b, ob + 2, none⟩) hbB).trans (HXC.out 2 _ rfl)
  have u3 := (HK2.out.b.cell (p := ⟨b, ob + 3, none⟩) hbB).trans (HXC.out 3 _ rfl)
  have u4 := (HK2.out.b.cell (p := ⟨b, ob + 4, none⟩) hbB).trans (HXC.out 4 _ rfl)
  have u5 := (HK2.out.b.cell (p := ⟨b, ob + 5, none⟩) hbB).trans (HXC.out 5 _ rfl)
  simp only [Nat.add_zero] at u0
  have kw := within_of HQX.out h5 true w2 _ _ HW2.out (QI.keep HK2.out.b x HXQ.out) (HG.out.bel h5 HK2.out.b) (HP.out.on HK2.out.b)
  go_wp2_with fail
  refine kw.mono ?_
  rintro e w3 (⟨rfl, hw3, hk3⟩ | ⟨rfl, hn3, hb3⟩)
  rotate_left
  · go_wp2
    exact ⟨rfl, WgP.pre HE2.out hn3 (HK2.out.b.trans hb3)⟩
  have HW3 : Hid (Wg B R (l ++ [wClamp, sp] ++ wtx true x) w3) := hw3
  have HK3 : Hid (Kpw B R w w3) := HK2.out.trans hk3
  have HX3 : Hid (Kbx w3 w.heap.size #[.int .i64 10, .string (tx c), .int .i64 lo, .int .i64 hi, .slice wa wl wc, .slice (some ⟨b, ob, none⟩) 1 kc] 25) := HX2.out.kp hk3 hXR (by decide)
  clear hw3 hk3 z0 z1 z2 z3 z4 z5
  have z0 := HX3.out.c 0 _ rfl
  have z1 := HX3.out.c 1 _ rfl
  have z2 := HX3.out.c 2 _ rfl
  have z3 := HX3.out.c 3 _ rfl
  have z4 := HX3.out.c 4 _ rfl
  have z5 := HX3.out.c 5 _ rfl
  clear kw u0 u1 u2 u3 u4 u5
  have kt := wtests_any wh _ HW3.out (TI.keep HT.out HK3.out.b) HOK.out (HG.out.bel h5 HK3.out.b) (HP.out.on HK3.out.b) h5
  rw [HL.out] at kt
  go_wp2_with fail
  refine kt.mono ?_
  rintro e w9 (⟨rfl, hw9, hk9⟩ | ⟨rfl, hn9, hb9⟩)
  · go_wp2
    go_end0
    exact .inl ⟨rfl, hw9, HK3.out.trans hk9⟩
  · go_wp2
    exact ⟨rfl, .inr ⟨rfl, hn9, HK3.out.b.trans hb9⟩⟩
set_option maxHeartbeats 2000000 in
set_option maxRecDepth 100000 in
theorem qw9t {B R : Nat} (h5 : 5 ≤ B) (c : By) (lo hi : Int) (wh : List Tst) (x y : Qu) (ai : By) (hai : itoa lo = ai) (hX : QW B R x) (hS : isS x = true) (w : World) (l : List By) (cs : List Value) (h : Wg B R l w) (hI : QI w B (.node 9 c lo hi wh 1 x y) cs) (hok : ∀ t ∈ wh, TOk t) (hG : Glo w) (hpt : PT B w) : Calls Tryz.prog 35 #[.pointer (some ⟨R, 0, none⟩), .agg cs.toArray] w (WgP B R w (l ++ wtx true x ++ [sLeft, ai, sRight] ++ chx wh)) := by
  have HI : Hid (QI w B (.node 9 c lo hi wh 1 x y) cs) := hI
  obtain ⟨wv, ka, kc, rfl, hT, hnk, hn63, hc60, hk64, hl64, hh64, hx0, hy0, hkids⟩ := hI
  obtain ⟨b, ob, rfl, hbB, ⟨xs, hxq, hxc⟩, hyy⟩ := hkids (by omega) (by omega)
  have HXQ : Hid (QI w B x xs) := hxq
  obtain ⟨kx, cx, lox, hix, wax, wnx, wcx, kax, knx, kcx, rfl⟩ := hxq.six
  have HXC : Hid (∀ (j : Nat) u, ([.int .i64 kx, .string (tx cx), .int .i64 lox, .int .i64 hix, .slice wax wnx wcx, .slice kax knx kcx] : List Value)[j]? = some u → w.cell? ⟨b, ob + j, none⟩ = some u) := hxc
  clear hxq hxc hyy
  have HT : Hid (TI w B wh wv) := hT
  obtain ⟨wa, wc, rfl, hwc, hw63, _, _⟩ := hT
  have HOK : Hid (∀ t ∈ wh, TOk t) := hok
  have HG : Hid (Glo w) := hG
  have HP : Hid (PT B w) := hpt
  have HW : Hid (Wg B R l w) := h
  obtain ⟨L, hL⟩ : ∃ L, l ++ wtx true x ++ [sLeft, ai, sRight] ++ chx wh = L := ⟨_, rfl⟩
  have HL : Hid (l ++ wtx true x ++ [sLeft, ai, sRight] ++ chx wh = L) := hL
  have HE1 : Hid (∃ r, l ++ wtx true x ++ r = L) := ⟨[sLeft, ai, sRight] ++ (chx wh), by simp only [← hL, List.append_assoc]⟩
  have HE2 : Hid (∃ r, l ++ wtx true x ++ [sLeft, ai, sRight] ++ r = L) := ⟨chx wh, by simp only [← hL, List.append_assoc]⟩
  rw [hL]
  obtain ⟨wl, hwl⟩ : ∃ wl, wh.length = wl := ⟨_, rfl⟩
  have HWL : Hid (wh.length = wl) := hwl
  rw [hwl] at HI HT hwc hw63 ⊢
  obtain ⟨W0, hW0⟩ : ∃ W0, w.alloc (.cells #[.int .i64 9, .string (tx c), .int .i64 lo, .int .i64 hi, .slice wa wl wc, .slice (some ⟨b, ob, none⟩) 1 kc] 25) = W0 := ⟨_, rfl⟩
  have hb0 : Below w.heap.size w W0 := hW0 ▸ ba _ _
  have HX0 : Hid (Kbx W0 w.heap.size #[.int .i64 9, .string (tx c), .int .i64 lo, .int .i64 hi, .slice wa wl wc, .slice (some ⟨b, ob, none⟩) 1 kc] 25) := hW0 ▸ Kbx.new w _ _
  have hXR : w.heap.size ≠ R := Nat.ne_of_gt HW.out.t.lt
  have HW0 : Hid (Wg B R l W0) := HW.out.at hb0
  have HK0 : Hid (Kpw B R w W0) := HW.out.kp hb0
  have z0 := HX0.out.c 0 _ rfl
  have z1 := HX0.out.c 1 _ rfl
  have z2 := HX0.out.c 2 _ rfl
  have z3 := HX0.out.c 3 _ rfl
  have z4 := HX0.out.c 4 _ rfl
  have z5 := HX0.out.c 5 _ rfl
  clear hok hG hpt h hb0 hL hwl hx0 hy0
  have HQX : Hid (QW B R x) := hX
  have hail : ai.length ≤ 65536 := by have := itoa_len hl64.1 hl64.2; rw [hai] at this; omega
  have HSS : Hid (∀ s ∈ [sLeft, ai, sRight], s.length ≤ 65536) := by
    intro s hs
    simp only [List.mem_cons, List.not_mem_nil, or_false] at hs
    rcases hs with rfl | rfl | rfl
    · decide
    · exact hail
    · decide
  have HB : Hid ((decide (kx = 4) || decide (kx = 5)) = true) := by rw [Hid, isS_of HXQ.out, hS]
  have HAI : Hid (itoa lo = ai) := hai
  have HL64 : Hid (-9223372036854775808 ≤ lo ∧ lo ≤ 9223372036854775807) := hl64
  clear hX hai hail hS
  go_enter Tryz.func35, Tryz.ntmps35
  go_wp2_with fail
  clear hW0
  refine q25t (fun _ _ d _ _ h => by cases d <;> exact h) _ _ _ _ _ _ _ _ _ _ _ _ _ _ _ _ _ _ _ _ _ _ _ _ _ _ _ _ _ _ _ _ _ _ _ _ _ _ _ _ _ _ _ _ _ _ _ _ _ _ _ _ _ _ _ _ _ _ _ _ _ _ _ _ _ _ _ _ _ _ _ _ _ _ _ _ _ _ _ _ _ _ _ _ _ _ _ _ _ _ _ _ _ _ _ _ _ _ _ _ _ _ _ _ _ _ _ _ _ _ _ _ _ _ _ _ _ _ _ _ _ _ _ _ _ _ _ _ _ _ _ _ _ _ _ _ _ _ _ _ _ _ _ _ _ _ W0 B R HW0.out.le w.heap.size b ob kc kx cx lox hix wax wnx wcx kax knx kcx (l ++ wtx true x)
    (fun W hW => (HX0.out.kp hW hXR (by decide)).c 5 _ rfl)
    (fun W hW => ((HK0.out.trans hW).b.cell (p := ⟨b, ob + 0, none⟩) hbB).trans (HXC.out 0 _ rfl)) (fun W hW => ((HK0.out.trans hW).b.cell (p := ⟨b, ob + 1, none⟩) hbB).trans (HXC.out 1 _ rfl)) (fun W hW => ((HK0.out.trans hW).b.cell (p := ⟨b, ob + 2, none⟩) hbB).trans (HXC.out 2 _ rfl)) (fun W hW => ((HK0.out.trans hW).b.cell (p := ⟨b, ob + 3, none⟩) hbB).trans (HXC.out 3 _ rfl)) (fun W hW => ((HK0.out.trans hW).b.cell (p := ⟨b, ob + 4, none⟩) hbB).trans (HXC.out 4 _ rfl)) (fun W hW => ((HK0.out.trans hW).b.cell (p := ⟨b, ob + 5, none⟩) hbB).trans (HXC.out 5 _ rfl))
    (fun W _ => isSum_any _ _ _ _ _ _ _ HB.out W) (fun W hW => within_of HQX.out h5 true W _ _ (HW0.out.at hW) (QI.keep (HK0.out.b.trans (hW.mono HW0.out.le)) x HXQ.out) (HG.out.bel h5 (HK0.out.b.trans (hW.mono HW0.out.le))) (HP.out.on (HK0.out.b.trans (hW.mono HW0.out.le)))) ?_ ?_
  rotate_left
  · exact fun a W hd hn hb => ⟨hd, WgP.pre HE1.out hn (HK0.out.b.trans hb)⟩
  intro w1 hw1 hk1
  have HW1 : Hid (Wg B R (l ++ wtx true x) w1) := hw1
  have HK1 : Hid (Kpw B R w w1) := HK0.out.trans hk1
  have HX1 : Hid (Kbx w1 w.heap.size #[.int .i64 9, .string (tx c), .int .i64 lo, .int .i64 hi, .slice wa wl wc, .slice (some ⟨b, ob, none⟩) 1 kc] 25) := HX0.out.kp hk1 hXR (by decide)
  clear hw1 hk1 z0 z1 z2 z3 z4 z5
  have z0 := HX1.out.c 0 _ rfl
  have z1 := HX1.out.c 1 _ rfl
  have z2 := HX1.out.c 2 _ rfl
  have z3 := HX1.out.c 3 _ rfl
  have z4 := HX1.out.c 4 _ rfl
  have z5 := HX1.out.c 5 _ rfl
  have ki := itoa_any B lo HL64.out.1 HL64.out.2 w1 (HP.out.on HK1.out.b)
  rw [HAI.out] at ki
  go_wp2_with fail
  refine ki.mono ?_
  rintro e w2 ⟨rfl, hb2⟩
  have HW2 : Hid (Wg B R (l ++ wtx true x) w2) := HW1.out.at hb2
  have HK2 : Hid (Kpw B R w w2) := HK1.out.trans (HW1.out.kp hb2)
  have HX2 : Hid (Kbx w2 w.heap.size #[.int .i64 9, .string (tx c), .int .i64 lo, .int .i64 hi, .slice wa wl wc, .slice (some ⟨b, ob, none⟩) 1 kc] 25) := HX1.out.at hb2
  clear hb2 ki z0 z1 z2 z3 z4 z5
  have z0 := HX2.out.c 0 _ rfl
  have z1 := HX2.out.c 1 _ rfl
  have z2 := HX2.out.c 2 _ rfl
  have z3 := HX2.out.c 3 _ rfl
  have z4 := HX2.out.c 4 _ rfl
  have z5 := HX2.out.c 5 _ rfl
  have kp := put_new HW2.out [sLeft, ai, sRight] #[.string (tx sLeft), .string (tx ai), .string (tx sRight)] rfl 3 rfl (by omega) HSS.out
  go_wp2_with fail
  refine kp.mono ?_
  rintro e w3 (⟨rfl, hw3, hk3⟩ | ⟨rfl, hn3, hb3⟩)
  rotate_left
  · go_wp2
    exact ⟨rfl, WgP.pre HE2.out hn3 (HK2.out.b.trans hb3)⟩
  have HW3 : Hid (Wg B R (l ++ wtx true x ++ [sLeft, ai, sRight]) w3) := hw3
  have HK3 : Hid (Kpw B R w w3) := HK2.out.trans hk3
  have HX3 : Hid (Kbx w3 w.heap.size #[.int .i64 9, .string (tx c), .int .i64 lo, .int .i64 hi, .slice wa wl wc, .slice (some ⟨b, ob, none⟩) 1 kc] 25) := HX2.out.kp hk3 hXR (by decide)
  clear hw3 hk3 z0 z1 z2 z3 z4 z5
  have z0 := HX3.out.c 0 _ rfl
  have z1 := HX3.out.c 1 _ rfl
  have z2 := HX3.out.c 2 _ rfl
  have z3 := HX3.out.c 3 _ rfl
  have z4 := HX3.out.c 4 _ rfl
  have z5 := HX3.out.c 5 _ rfl
  clear kp
  have kt := wtests_any wh _ HW3.out (TI.keep HT.out HK3.out.b) HOK.out (HG.out.bel h5 HK3.out.b) (HP.out.on HK3.out.b) h5
  rw [HL.out] at kt
  go_wp2_with fail
  refine kt.mono ?_
  rintro e w9 (⟨rfl, hw9, hk9⟩ | ⟨rfl, hn9, hb9⟩)
  · go_wp2
    go_end0
    exact .inl ⟨rfl, hw9, HK3.out.trans hk9⟩
  · go_wp2
    exact ⟨rfl, .inr ⟨rfl, hn9, HK3.out.b.trans hb9⟩⟩
set_option maxHeartbeats 2000000 in
set_option maxRecDepth 100000 in
theorem qw9f {B R : Nat} (h5 : 5 ≤ B) (c : By) (lo hi : Int) (wh : List Tst) (x y : Qu) (ai : By) (hai : itoa lo = ai) (hX : QW B R x) (hS : isS x = false) (b6 : Bool) (h6 : isT x = b6) (w : World) (l : List By) (cs : List Value) (h : Wg B R l w) (hI : QI w B (.node 9 c lo hi wh 1 x y) cs) (hok : ∀ t ∈ wh, TOk t) (hG : Glo w) (hpt : PT B w) : Calls Tryz.prog 35 #[.pointer (some ⟨R, 0, none⟩), .agg cs.toArray] w (WgP B R w (l ++ wtx b6 x ++ [sLeft, ai, sRight] ++ chx wh)) := by
  have HI : Hid (QI w B (.node 9 c lo hi wh 1 x y) cs) := hI
  obtain ⟨wv, ka, kc, rfl, hT, hnk, hn63, hc60, hk64, hl64, hh64, hx0, hy0, hkids⟩ := hI
  obtain ⟨b, ob, rfl, hbB, ⟨xs, hxq, hxc⟩, hyy⟩ := hkids (by omega) (by omega)
  have HXQ : Hid (QI w B x xs) := hxq
  obtain ⟨kx, cx, lox, hix, wax, wnx, wcx, kax, knx, kcx, rfl⟩ := hxq.six
  have HXC : Hid (∀ (j : Nat) u, ([.int .i64 kx, .string (tx cx), .int .i64 lox, .int .i64 hix, .slice wax wnx wcx, .slice kax knx kcx] : List Value)[j]? = some u → w.cell? ⟨b, ob + j, none⟩ = some u) := hxc
  clear hxq hxc hyy
  have HT : Hid (TI w B wh wv) := hT
  obtain ⟨wa, wc, rfl, hwc, hw63, _, _⟩ := hT
  have HOK : Hid (∀ t ∈ wh, TOk t) := hok
  have HG : Hid (Glo w) := hG
  have HP : Hid (PT B w) := hpt
  have HW : Hid (Wg B R l w) := h
  obtain ⟨L, hL⟩ : ∃ L, l ++ wtx b6 x ++ [sLeft, ai, sRight] ++ chx wh = L := ⟨_, rfl⟩
  have HL : Hid (l ++ wtx b6 x ++ [sLeft, ai, sRight] ++ chx wh = L) := hL
  have HE1 : Hid (∃ r, l ++ wtx b6 x ++ r = L) := ⟨[sLeft, ai, sRight] ++ (chx wh), by simp only [← hL, List.append_assoc]⟩
  have HE2 : Hid (∃ r, l ++ wtx b6 x ++ [sLeft, ai, sRight] ++ r = L) := ⟨chx wh, by simp only [← hL, List.append_assoc]⟩
  rw [hL]
  obtain ⟨wl, hwl⟩ : ∃ wl, wh.length = wl := ⟨_, rfl⟩
  have HWL : Hid (wh.length = wl) := hwl
  rw [hwl] at HI HT hwc hw63 ⊢
  obtain ⟨W0, hW0⟩ : ∃ W0, w.alloc (.cells #[.int .i64 9, .string (tx c), .int .i64 lo, .int .i64 hi, .slice wa wl wc, .slice (some ⟨b, ob, none⟩) 1 kc] 25) = W0 := ⟨_, rfl⟩
  have hb0 : Below w.heap.size w W0 := hW0 ▸ ba _ _
  have HX0 : Hid (Kbx W0 w.heap.size #[.int .i64 9, .string (tx c), .int .i64 lo, .int .i64 hi, .slice wa wl wc, .slice (some ⟨b, ob, none⟩) 1 kc] 25) := hW0 ▸ Kbx.new w _ _
  have hXR : w.heap.size ≠ R := Nat.ne_of_gt HW.out.t.lt
  have HW0 : Hid (Wg B R l W0) := HW.out.at hb0
  have HK0 : Hid (Kpw B R w W0) := HW.out.kp hb0
  have z0 := HX0.out.c 0 _ rfl
  have z1 := HX0.out.c 1 _ rfl
  have z2 := HX0.out.c 2 _ rfl
  have z3 := HX0.out.c 3 _ rfl
  have z4 := HX0.out.c 4 _ rfl
  have z5 := HX0.out.c 5 _ rfl
  clear hok hG hpt h hb0 hL hwl hx0 hy0
  have HQX : Hid (QW B R x) := hX
  have hail : ai.length ≤ 65536 := by have := itoa_len hl64.1 hl64.2; rw [hai] at this; omega
  have HSS : Hid (∀ s ∈ [sLeft, ai, sRight], s.length ≤ 65536) := by
    intro s hs
    simp only [List.mem_cons, List.not_mem_nil, or_false] at hs
    rcases hs with rfl | rfl | rfl
    · decide
    · exact hail
    · decide
  have HB : Hid ((decide (kx = 4) || decide (kx = 5)) = false) := by rw [Hid, isS_of HXQ.out, hS]
  have HB6 : Hid ((kx == 6) = b6) := by rw [Hid, ← h6, ← isT_of HXQ.out, Bool.eq_iff_iff]; simp
  have HAI : Hid (itoa lo = ai) := hai
  have HL64 : Hid (-9223372036854775808 ≤ lo ∧ lo ≤ 9223372036854775807) := hl64
  clear hX hai hail hS h6
  go_enter Tryz.func35, Tryz.ntmps35
  go_wp2_with fail
  clear hW0
  refine q25f (fun _ _ d _ _ h => by cases d <;> exact h) _ _ _ _ _ _ _ _ _ _ _ _ _ _ _ _ _ _ _ _ _ _ _ _ _ _ _ _ _ _ _ _ _ _ _ _ _ _ _ _ _ _ _ _ _ _ _ _ _ _ _ _ _ _ _ _ _ _ _ _ _ _ _ _ _ _ _ _ _ _ _ _ _ _ _ _ _ _ _ _ _ _ _ _ _ _ _ _ _ _ _ _ _ _ _ _ _ _ _ _ _ _ _ _ _ _ _ _ _ _ _ _ _ _ _ _ _ _ _ _ _ _ _ _ _ _ _ _ _ _ _ _ _ _ _ _ _ _ _ _ _ _ _ _ _ _ W0 B R HW0.out.le w.heap.size b ob kc kx cx lox hix wax wnx wcx kax knx kcx (l ++ wtx b6 x) b6 HB6.out
    (fun W hW => (HX0.out.kp hW hXR (by decide)).c 5 _ rfl)
    (fun W hW => ((HK0.out.trans hW).b.cell (p := ⟨b, ob + 0, none⟩) hbB).trans (HXC.out 0 _ rfl)) (fun W hW => ((HK0.out.trans hW).b.cell (p := ⟨b, ob + 1, none⟩) hbB).trans (HXC.out 1 _ rfl)) (fun W hW => ((HK0.out.trans hW).b.cell (p := ⟨b, ob + 2, none⟩) hbB).trans (HXC.out 2 _ rfl)) (fun W hW => ((HK0.out.trans hW).b.cell (p := ⟨b, ob + 3, none⟩) hbB).trans (HXC.out 3 _ rfl)) (fun W hW => ((HK0.out.trans hW).b.cell (p := ⟨b, ob + 4, none⟩) hbB).trans (HXC.out 4 _ rfl)) (fun W hW => ((HK0.out.trans hW).b.cell (p := ⟨b, ob + 5, none⟩) hbB).trans (HXC.out 5 _ rfl))
    (fun W _ => isSum_any _ _ _ _ _ _ _ HB.out W) (fun W hW => within_of HQX.out h5 b6 W _ _ (HW0.out.at hW) (QI.keep (HK0.out.b.trans (hW.mono HW0.out.le)) x HXQ.out) (HG.out.bel h5 (HK0.out.b.trans (hW.mono HW0.out.le))) (HP.out.on (HK0.out.b.trans (hW.mono HW0.out.le)))) ?_ ?_
  rotate_left
  · exact fun a W hd hn hb => ⟨hd, WgP.pre HE1.out hn (HK0.out.b.trans hb)⟩
  intro w1 hw1 hk1
  have HW1 : Hid (Wg B R (l ++ wtx b6 x) w1) := hw1
  have HK1 : Hid (Kpw B R w w1) := HK0.out.trans hk1
  have HX1 : Hid (Kbx w1 w.heap.size #[.int .i64 9, .string (tx c), .int .i64 lo, .int .i64 hi, .slice wa wl wc, .slice (some ⟨b, ob, none⟩) 1 kc] 25) := HX0.out.kp hk1 hXR (by decide)
  clear hw1 hk1 z0 z1 z2 z3 z4 z5
  have z0 := HX1.out.c 0 _ rfl
  have z1 := HX1.out.c 1 _ rfl
  have z2 := HX1.out.c 2 _ rfl
  have z3 := HX1.out.c 3 _ rfl
  have z4 := HX1.out.c 4 _ rfl
  have z5 := HX1.out.c 5 _ rfl
  have ki := itoa_any B lo HL64.out.1 HL64.out.2 w1 (HP.out.on HK1.out.b)
  rw [HAI.out] at ki
  go_wp2_with fail
  refine ki.mono ?_
  rintro e w2 ⟨rfl, hb2⟩
  have HW2 : Hid (Wg B R (l ++ wtx b6 x) w2) := HW1.out.at hb2
  have HK2 : Hid (Kpw B R w w2) := HK1.out.trans (HW1.out.kp hb2)
  have HX2 : Hid (Kbx w2 w.heap.size #[.int .i64 9, .string (tx c), .int .i64 lo, .int .i64 hi, .slice wa wl wc, .slice (some ⟨b, ob, none⟩) 1 kc] 25) := HX1.out.at hb2
  clear hb2 ki z0 z1 z2 z3 z4 z5
  have z0 := HX2.out.c 0 _ rfl
  have z1 := HX2.out.c 1 _ rfl
  have z2 := HX2.out.c 2 _ rfl
  have z3 := HX2.out.c 3 _ rfl
  have z4 := HX2.out.c 4 _ rfl
  have z5 := HX2.out.c 5 _ rfl
  have kp := put_new HW2.out [sLeft, ai, sRight] #[.string (tx sLeft), .string (tx ai), .string (tx sRight)] rfl 3 rfl (by omega) HSS.out
  go_wp2_with fail
  refine kp.mono ?_
  rintro e w3 (⟨rfl, hw3, hk3⟩ | ⟨rfl, hn3, hb3⟩)
  rotate_left
  · go_wp2
    exact ⟨rfl, WgP.pre HE2.out hn3 (HK2.out.b.trans hb3)⟩
  have HW3 : Hid (Wg B R (l ++ wtx b6 x ++ [sLeft, ai, sRight]) w3) := hw3
  have HK3 : Hid (Kpw B R w w3) := HK2.out.trans hk3
  have HX3 : Hid (Kbx w3 w.heap.size #[.int .i64 9, .string (tx c), .int .i64 lo, .int .i64 hi, .slice wa wl wc, .slice (some ⟨b, ob, none⟩) 1 kc] 25) := HX2.out.kp hk3 hXR (by decide)
  clear hw3 hk3 z0 z1 z2 z3 z4 z5
  have z0 := HX3.out.c 0 _ rfl
  have z1 := HX3.out.c 1 _ rfl
  have z2 := HX3.out.c 2 _ rfl
  have z3 := HX3.out.c 3 _ rfl
  have z4 := HX3.out.c 4 _ rfl
  have z5 := HX3.out.c 5 _ rfl
  clear kp
  have kt := wtests_any wh _ HW3.out (TI.keep HT.out HK3.out.b) HOK.out (HG.out.bel h5 HK3.out.b) (HP.out.on HK3.out.b) h5
  rw [HL.out] at kt
  go_wp2_with fail
  refine kt.mono ?_
  rintro e w9 (⟨rfl, hw9, hk9⟩ | ⟨rfl, hn9, hb9⟩)
  · go_wp2
    go_end0
    exact .inl ⟨rfl, hw9, HK3.out.trans hk9⟩
  · go_wp2
    exact ⟨rfl, .inr ⟨rfl, hn9, HK3.out.b.trans hb9⟩⟩
set_option maxHeartbeats 2000000 in
set_option maxRecDepth 100000 in
theorem qw7 {B R : Nat} (h5 : 5 ≤ B) (c : By) (lo hi : Int) (wh : List Tst) (x y : Qu) (hX : QW B R x) (hY : QW B R y) (w : World) (l : List By) (cs : List Value) (h : Wg B R l w) (hI : QI w B (.node 7 c lo hi wh 2 x y) cs) (hok : ∀ t ∈ wh, TOk t) (hG : Glo w) (hpt : PT B w) : Calls Tryz.prog 35 #[.pointer (some ⟨R, 0, none⟩), .agg cs.toArray] w (WgP B R w (l ++ [wJoin, sOpen] ++ qtx x ++ [sComma] ++ qtx y ++ [sShut] ++ chx wh)) := by
  have HI : Hid (QI w B (.node 7 c lo hi wh 2 x y) cs) := hI
  obtain ⟨wv, ka, kc, rfl, hT, hnk, hn63, hc60, hk64, hl64, hh64, hx0, hy0, hkids⟩ := hI
  obtain ⟨b, ob, rfl, hbB, ⟨xs, hxq, hxc⟩, hyy⟩ := hkids (by omega) (by omega)
  have HXQ : Hid (QI w B x xs) := hxq
  obtain ⟨kx, cx, lox, hix, wax, wnx, wcx, kax, knx, kcx, rfl⟩ := hxq.six
  have HXC : Hid (∀ (j : Nat) u, ([.int .i64 kx, .string (tx cx), .int .i64 lox, .int .i64 hix, .slice wax wnx wcx, .slice kax knx kcx] : List Value)[j]? = some u → w.cell? ⟨b, ob + j, none⟩ = some u) := hxc
  obtain ⟨ys, hyq, hyc⟩ := hyy (by omega)
  have HYQ : Hid (QI w B y ys) := hyq
  obtain ⟨ky, cy, loy, hiy, way, wny, wcy, kay, kny, kcy, rfl⟩ := hyq.six
  have HYC : Hid (∀ (j : Nat) u, ([.int .i64 ky, .string (tx cy), .int .i64 loy, .int .i64 hiy, .slice way wny wcy, .slice kay kny kcy] : List Value)[j]? = some u → w.cell? ⟨b, ob + 6 + j, none⟩ = some u) := hyc
  clear hyq hyc
  clear hxq hxc hyy
  have HT : Hid (TI w B wh wv) := hT
  obtain ⟨wa, wc, rfl, hwc, hw63, _, _⟩ := hT
  have HOK : Hid (∀ t ∈ wh, TOk t) := hok
  have HG : Hid (Glo w) := hG
  have HP : Hid (PT B w) := hpt
  have HW : Hid (Wg B R l w) := h
  obtain ⟨L, hL⟩ : ∃ L, l ++ [wJoin, sOpen] ++ qtx x ++ [sComma] ++ qtx y ++ [sShut] ++ chx wh = L := ⟨_, rfl⟩
  have HL : Hid (l ++ [wJoin, sOpen] ++ qtx x ++ [sComma] ++ qtx y ++ [sShut] ++ chx wh = L) := hL
  have HE1 : Hid (∃ r, l ++ [wJoin, sOpen] ++ r = L) := ⟨qtx x ++ ([sComma] ++ (qtx y ++ ([sShut] ++ (chx wh)))), by simp only [← hL, List.append_assoc]⟩
  have HE2 : Hid (∃ r, l ++ [wJoin, sOpen] ++ qtx x ++ r = L) := ⟨[sComma] ++ (qtx y ++ ([sShut] ++ (chx wh))), by simp only [← hL, List.append_assoc]⟩
  have HE3 : Hid (∃ r, l ++ [wJoin, sOpen] ++ qtx x ++ [sComma] ++ r = L) := ⟨qtx y ++ ([sShut] ++ (chx wh)), by simp only [← hL, List.append_assoc]⟩
  have HE4 : Hid (∃ r, l ++ [wJoin, sOpen] ++ qtx x ++ [sComma] ++ qtx y ++ r = L) := ⟨[sShut] ++ (chx wh), by simp only [← hL, List.append_assoc]⟩
  have HE5 : Hid (∃ r, l ++ [wJoin, sOpen] ++ qtx x ++ [sComma] ++ qtx y ++ [sShut] ++ r = L) := ⟨chx wh, by simp only [← hL, List.append_assoc]⟩
  rw [hL]
  obtain ⟨wl, hwl⟩ : ∃ wl, wh.length = wl := ⟨_, rfl⟩
  have HWL : Hid (wh.length = wl) := hwl
  rw [hwl] at HI HT hwc hw63 ⊢
  obtain ⟨W0, hW0⟩ : ∃ W0, w.alloc (.cells #[.int .i64 7, .string (tx c), .int .i64 lo, .int .i64 hi, .slice wa wl wc, .slice (some ⟨b, ob, none⟩) 2 kc] 25) = W0 := ⟨_, rfl⟩
  have hb0 : Below w.heap.size w W0 := hW0 ▸ ba _ _
  have HX0 : Hid (Kbx W0 w.heap.size #[.int .i64 7, .string (tx c), .int .i64 lo, .int .i64 hi, .slice wa wl wc, .slice (some ⟨b, ob, none⟩) 2 kc] 25) := hW0 ▸ Kbx.new w _ _
  have hXR : w.heap.size ≠ R := Nat.ne_of_gt HW.out.t.lt
  have HW0 : Hid (Wg B R l W0) := HW.out.at hb0
  have HK0 : Hid (Kpw B R w W0) := HW.out.kp hb0
  have z0 := HX0.out.c 0 _ rfl
  have z1 := HX0.out.c 1 _ rfl
  have z2 := HX0.out.c 2 _ rfl
  have z3 := HX0.out.c 3 _ rfl
  have z4 := HX0.out.c 4 _ rfl
  have z5 := HX0.out.c 5 _ rfl
  clear hok hG hpt h hb0 hL hwl hx0 hy0
  have HQX : Hid (QW B R x) := hX
  have HQY : Hid (QW B R y) := hY
  clear hX hY
  have kp := put_new HW0.out [wJoin, sOpen] #[.string (tx wJoin), .string (tx sOpen)] rfl 2 rfl (by omega) (by decide)
  go_enter Tryz.func35, Tryz.ntmps35
  go_wp2_with fail
  clear hW0
  refine kp.mono ?_
  rintro e w1 (⟨rfl, hw1, hk1⟩ | ⟨rfl, hn1, hb1⟩)
  rotate_left
  · go_wp2
    exact ⟨rfl, WgP.pre HE1.out hn1 (HK0.out.b.trans hb1)⟩
  have HW1 : Hid (Wg B R (l ++ [wJoin, sOpen]) w1) := hw1
  have HK1 : Hid (Kpw B R w w1) := HK0.out.trans hk1
  have HX1 : Hid (Kbx w1 w.heap.size #[.int .i64 7, .string (tx c), .int .i64 lo, .int .i64 hi, .slice wa wl wc, .slice (some ⟨b, ob, none⟩) 2 kc] 25) := HX0.out.kp hk1 hXR (by decide)
  clear hw1 hk1 z0 z1 z2 z3 z4 z5
  have z0 := HX1.out.c 0 _ rfl
  have z1 := HX1.out.c 1 _ rfl
  have z2 := HX1.out.c 2 _ rfl
  have z3 := HX1.out.c 3 _ rfl
  have z4 := HX1.out.c 4 _ rfl
  have z5 := HX1.out.c 5 _ rfl
  clear kp
  have u0 := (HK1.out.b.cell (p := ⟨b, ob + 0, none⟩) hbB).trans (HXC.out 0 _ rfl)
  have u1 := (HK1.out.b.cell (p := ⟨b, ob + 1, none⟩) hbB).trans (HXC.out 1 _ rfl)
  have u2 := (HK1.out.b.cell (p := ⟨b, ob + 2, none⟩) hbB).trans (HXC.out 2 _ rfl)
  have u3 := (HK1.out.b.cell (p := ⟨b, ob + 3, none⟩) hbB).trans (HXC.out 3 _ rfl)
  have u4 := (HK1.out.b.cell (p := ⟨b, ob + 4, none⟩) hbB).trans (HXC.out 4 _ rfl)
  have u5 := (HK1.out.b.cell (p := ⟨b, ob + 5, none⟩) hbB).trans (HXC.out 5 _ rfl)
  simp only [Nat.add_zero] at u0
  have kw := HQX.out w1 _ _ HW1.out (QI.keep HK1.out.b x HXQ.out) (HG.out.bel h5 HK1.out.b) (HP.out.on HK1.out.b)
  go_wp2_with fail
  refine kw.mono ?_
  rintro e w2 (⟨rfl, hw2, hk2⟩ | ⟨rfl, hn2, hb2⟩)
  rotate_left
  · go_wp2
    exact ⟨rfl, WgP.pre HE2.out hn2 (HK1.out.b.trans hb2)⟩
  have HW2 : Hid (Wg B R (l ++ [wJoin, sOpen] ++ qtx x) w2) := hw2
  have HK2 : Hid (Kpw B R w w2) := HK1.out.trans hk2
  have HX2 : Hid (Kbx w2 w.heap.size #[.int .i64 7, .string (tx c), .int .i64 lo, .int .i64 hi, .slice wa wl wc, .slice (some ⟨b, ob, none⟩) 2 kc] 25) := HX1.out.kp hk2 hXR (by decide)
  clear hw2 hk2 z0 z1 z2 z3 z4 z5
  have z0 := HX2.out.c 0 _ rfl
  have z1 := HX2.out.c 1 _ rfl
  have z2 := HX2.out.c 2 _ rfl
  have z3 := HX2.out.c 3 _ rfl
  have z4 := HX2.out.c 4 _ rfl
  have z5 := HX2.out.c 5 _ rfl
  clear kw u0 u1 u2 u3 u4 u5
  have kp := put_new HW2.out [sComma] #[.string (tx sComma)] rfl 1 rfl (by omega) (by decide)
  go_wp2_with fail
  refine kp.mono ?_
  rintro e w3 (⟨rfl, hw3, hk3⟩ | ⟨rfl, hn3, hb3⟩)
  rotate_left
  · go_wp2
    exact ⟨rfl, WgP.pre HE3.out hn3 (HK2.out.b.trans hb3)⟩
  have HW3 : Hid (Wg B R (l ++ [wJoin, sOpen] ++ qtx x ++ [sComma]) w3) := hw3
  have HK3 : Hid (Kpw B R w w3) := HK2.out.trans hk3
  have HX3 : Hid (Kbx w3 w.heap.size #[.int .i64 7, .string (tx c), .int .i64 lo, .int .i64 hi, .slice wa wl wc, .slice (some ⟨b, ob, none⟩) 2 kc] 25) := HX2.out.kp hk3 hXR (by decide)
  clear hw3 hk3 z0 z1 z2 z3 z4 z5
  have z0 := HX3.out.c 0 _ rfl
  have z1 := HX3.out.c 1 _ rfl
  have z2 := HX3.out.c 2 _ rfl
  have z3 := HX3.out.c 3 _ rfl
  have z4 := HX3.out.c 4 _ rfl
  have z5 := HX3.out.c 5 _ rfl
  clear kp
  have u0 := (HK3.out.b.cell (p := ⟨b, ob + 6 + 0, none⟩) hbB).trans (HYC.out 0 _ rfl)
  have u1 := (HK3.out.b.cell (p := ⟨b, ob + 6 + 1, none⟩) hbB).trans (HYC.out 1 _ rfl)
  have u2 := (HK3.out.b.cell (p := ⟨b, ob + 6 + 2, none⟩) hbB).trans (HYC.out 2 _ rfl)
  have u3 := (HK3.out.b.cell (p := ⟨b, ob + 6 + 3, none⟩) hbB).trans (HYC.out 3 _ rfl)
  have u4 := (HK3.out.b.cell (p := ⟨b, ob + 6 + 4, none⟩) hbB).trans (HYC.out 4 _ rfl)
  have u5 := (HK3.out.b.cell (p := ⟨b, ob + 6 + 5, none⟩) hbB).trans (HYC.out 5 _ rfl)
  simp only [Nat.add_zero] at u0
  have kw := HQY.out w3 _ _ HW3.out (QI.keep HK3.out.b y HYQ.out) (HG.out.bel h5 HK3.out.b) (HP.out.on HK3.out.b)
  go_wp2_with fail
  refine kw.mono ?_
  rintro e w4 (⟨rfl, hw4, hk4⟩ | ⟨rfl, hn4, hb4⟩)
  rotate_left
  · go_wp2
    exact ⟨rfl, WgP.pre HE4.out hn4 (HK3.out.b.trans hb4)⟩
  have HW4 : Hid (Wg B R (l ++ [wJoin, sOpen] ++ qtx x ++ [sComma] ++ qtx y) w4) := hw4
  have HK4 : Hid (Kpw B R w w4) := HK3.out.trans hk4
  have HX4 : Hid (Kbx w4 w.heap.size #[.int .i64 7, .string (tx c), .int .i64 lo, .int .i64 hi, .slice wa wl wc, .slice (some ⟨b, ob, none⟩) 2 kc] 25) := HX3.out.kp hk4 hXR (by decide)
  clear hw4 hk4 z0 z1 z2 z3 z4 z5
  have z0 := HX4.out.c 0 _ rfl
  have z1 := HX4.out.c 1 _ rfl
  have z2 := HX4.out.c 2 _ rfl
  have z3 := HX4.out.c 3 _ rfl
  have z4 := HX4.out.c 4 _ rfl
  have z5 := HX4.out.c 5 _ rfl
  clear kw u0 u1 u2 u3 u4 u5
  have kp := put_new HW4.out [sShut] #[.string (tx sShut)] rfl 1 rfl (by omega) (by decide)
  go_wp2_with fail
  refine kp.mono ?_
  rintro e w5 (⟨rfl, hw5, hk5⟩ | ⟨rfl, hn5, hb5⟩)
  rotate_left
  · go_wp2
    exact ⟨rfl, WgP.pre HE5.out hn5 (HK4.out.b.trans hb5)⟩
  have HW5 : Hid (Wg B R (l ++ [wJoin, sOpen] ++ qtx x ++ [sComma] ++ qtx y ++ [sShut]) w5) := hw5
  have HK5 : Hid (Kpw B R w w5) := HK4.out.trans hk5
  have HX5 : Hid (Kbx w5 w.heap.size #[.int .i64 7, .string (tx c), .int .i64 lo, .int .i64 hi, .slice wa wl wc, .slice (some ⟨b, ob, none⟩) 2 kc] 25) := HX4.out.kp hk5 hXR (by decide)
  clear hw5 hk5 z0 z1 z2 z3 z4 z5
  have z0 := HX5.out.c 0 _ rfl
  have z1 := HX5.out.c 1 _ rfl
  have z2 := HX5.out.c 2 _ rfl
  have z3 := HX5.out.c 3 _ rfl
  have z4 := HX5.out.c 4 _ rfl
  have z5 := HX5.out.c 5 _ rfl
  clear kp
  have kt := wtests_any wh _ HW5.out (TI.keep HT.out HK5.out.b) HOK.out (HG.out.bel h5 HK5.out.b) (HP.out.on HK5.out.b) h5
  rw [HL.out] at kt
  go_wp2_with fail
  refine kt.mono ?_
  rintro e w9 (⟨rfl, hw9, hk9⟩ | ⟨rfl, hn9, hb9⟩)
  · go_wp2
    go_end0
    exact .inl ⟨rfl, hw9, HK5.out.trans hk9⟩
  · go_wp2
    exact ⟨rfl, .inr ⟨rfl, hn9, HK5.out.b.trans hb9⟩⟩
end Go.Proofs.YtidfkencjdjkbaaGreatDoor
