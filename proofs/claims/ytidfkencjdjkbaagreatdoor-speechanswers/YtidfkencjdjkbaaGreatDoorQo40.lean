import Derived.Test.YtidfkencjdjkbaaGreatDoorQo28
import Derived.Test.YtidfkencjdjkbaaGreatDoorQo39
/-
  LAW SpeechAnswers: what is heard is answered as what was said.
-/
namespace Go.Proofs.YtidfkencjdjkbaaGreatDoor
open Go.RowKit Sp

/-- a question of chapter 15 as one of chapter 5 -/
def toK : Qu → K.Ds.Qu
  | .none => .none
  | .node k c lo hi wh n x y => .node k (tx c) lo hi (wh.map fun t => (tx t.1, t.2.1, t.2.2)) n (toK x) (toK y)
theorem txs (s : By) : (tx s).size = s.length := by show s.toArray.size = _; simp
theorem tss_of {w : World} {B : Nat} {l : List Tst} {v : Value} (h : TI w B l v) : K.Tss w B v (l.map fun t => (tx t.1, t.2.1, t.2.2)) := by
  obtain ⟨a, c, rfl, h2, h3, h4, h5⟩ := h
  refine ⟨a, c, by simp, by simpa using h2, by simpa using h3, fun x hx => ?_, fun hne => ?_⟩
  · obtain ⟨t, ht, rfl⟩ := List.mem_map.1 hx
    have := (h4 t ht).1
    show (tx t.1).size ≤ _
    rw [txs]
    exact this
  · obtain ⟨b, o, e1, e2, e3⟩ := h5 (by intro e; rw [e] at hne; exact hne rfl)
    refine ⟨b, o, e1, e2, fun i x hx => ?_⟩
    rw [List.getElem?_map] at hx
    obtain ⟨t, ht, rfl⟩ := Option.map_eq_some_iff.1 hx
    exact ⟨e3 i t ht 0 _ rfl, e3 i t ht 1 _ rfl, e3 i t ht 2 _ rfl⟩
theorem qm_of {w : World} {B : Nat} : ∀ (q : Qu) {v0 v1 v2 v3 v4 v5 : Value}, QI w B q [v0, v1, v2, v3, v4, v5] → K.Qm w B (toK q) v0 v1 v2 v3 v4 v5
  | .none, _, _, _, _, _, _, h => h.elim
  | .node k c lo hi wh n x y, v0, v1, v2, v3, v4, v5, h => by
    obtain ⟨wv, ka, kc, he, hT, hn, hn63, hc, -, -, -, -, -, hk⟩ := h
    simp only [List.cons.injEq, and_true] at he
    obtain ⟨rfl, rfl, rfl, rfl, rfl, rfl⟩ := he
    refine ⟨rfl, rfl, rfl, rfl, by rw [txs]; exact hc, tss_of hT, ka, kc, rfl, hn, hn63, fun g1 g2 => ?_⟩
    obtain ⟨b, o, e1, e2, ⟨xs, e3, e4⟩, e5⟩ := hk g1 g2
    obtain ⟨k1, c1, l1, h1, a4, n4, c4, a5, n5, c5, rfl⟩ := e3.six
    refine ⟨b, o, e1, e2, ⟨_, _, _, _, _, _, ⟨e4 0 _ rfl, e4 1 _ rfl, e4 2 _ rfl, e4 3 _ rfl, e4 4 _ rfl, e4 5 _ rfl⟩, qm_of x e3⟩, fun g3 => ?_⟩
    obtain ⟨ys, f3, f4⟩ := e5 g3
    obtain ⟨k2, c2, l2, h2, b4, m4, d4, b5, m5, d5, rfl⟩ := f3.six
    exact ⟨_, _, _, _, _, _, ⟨f4 0 _ rfl, f4 1 _ rfl, f4 2 _ rfl, f4 3 _ rfl, f4 4 _ rfl, f4 5 _ rfl⟩, qm_of y f3⟩
theorem cmp_self : ∀ x : List Int, K.Ds.cmpT x x = 0
  | [] => rfl
  | a :: x => by
    simp only [K.Ds.cmpT]
    rw [if_neg (by omega), if_neg (by omega)]
    exact cmp_self x
theorem RdA.okz {t : By} {q a : Qu} {er at' : Int} (h : RdA t q er at') (hr : readT t = .ok a) : q = a ∧ er = 0 ∧ at' = 0 := by rw [RdA, hr] at h; exact h
set_option maxHeartbeats 4000000 in
set_option maxRecDepth 100000 in
theorem speechAnswers_walk (l : List K.Ds.Col) (ts : List K.Rw) (cv rv : Value) (q : Qu) (cs : List Value) (w : World) (hC : K.Cols w w.heap.size cv l) (hR : K.Rws w w.heap.size rv ts) (hI : QI w w.heap.size q cs) (hG : Glo w) (hpt : PT w.heap.size w) : Calls Tryz.prog 4 #[.agg #[cv, rv], .agg cs.toArray] w fun e w' => e = .returned (.bool true) ∧ Below w.heap.size w w' := by
  have HC : Hid (K.Cols w w.heap.size cv l) := hC
  have HR : Hid (K.Rws w w.heap.size rv ts) := hR
  have HI : Hid (QI w w.heap.size q cs) := hI
  have HG : Hid (Glo w) := hG
  have HP : Hid (PT w.heap.size w) := hpt
  have h5 : 5 ≤ w.heap.size := hG.sz
  obtain ⟨la, lc, rfl, -⟩ := hC.slice
  obtain ⟨ra, rc, rfl, -⟩ := hR.slice
  obtain ⟨ln, hln⟩ : ∃ ln, l.length = ln := ⟨_, rfl⟩
  obtain ⟨rn, hrn⟩ : ∃ rn, ts.length = rn := ⟨_, rfl⟩
  rw [hln] at HC ⊢
  rw [hrn] at HR ⊢
  obtain ⟨k0, c0, lo0, hi0, wa0, wn0, wc0, ka0, kn0, kc0, rfl⟩ := hI.six
  obtain ⟨W0, hW0⟩ : ∃ W0, (w.alloc (.cells #[.slice la ln lc, .slice ra rn rc] 33)).alloc (.cells #[.int .i64 k0, .string (tx c0), .int .i64 lo0, .int .i64 hi0, .slice wa0 wn0 wc0, .slice ka0 kn0 kc0] 25) = W0 := ⟨_, rfl⟩
  have HB0 : Hid (Below w.heap.size w W0) := hW0 ▸ bal (ba _ _) _
  have HT0 : Hid (Bx W0 w.heap.size [.slice la ln lc, .slice ra rn rc]) := hW0 ▸ (Bx.new w [.slice la ln lc, .slice ra rn rc] 33 rfl).at (ba _ _)
  have HX0 : Hid (Bx W0 (w.heap.size + 1) [.int .i64 k0, .string (tx c0), .int .i64 lo0, .int .i64 hi0, .slice wa0 wn0 wc0, .slice ka0 kn0 kc0]) := hW0 ▸ Bx.new (w.alloc (.cells #[.slice la ln lc, .slice ra rn rc] 33)) [.int .i64 k0, .string (tx c0), .int .i64 lo0, .int .i64 hi0, .slice wa0 wn0 wc0, .slice ka0 kn0 kc0] 25 (by simp)
  have ka := alive_any W0 (HG.out.at HB0.out)
  clear hC hR hI hG hpt hln hrn
  go_enter Tryz.func4, Tryz.ntmps4
  go_wp2_with fail
  clear hW0
  refine ka.mono ?_
  rintro e w1 ⟨rfl, hb1⟩
  have HB1 : Hid (Below w.heap.size w w1) := bt HB0.out hb1
  have HT1 : Hid (Bx w1 w.heap.size [.slice la ln lc, .slice ra rn rc]) := HT0.out.at hb1
  have HX1 : Hid (Bx w1 (w.heap.size + 1) [.int .i64 k0, .string (tx c0), .int .i64 lo0, .int .i64 hi0, .slice wa0 wn0 wc0, .slice ka0 kn0 kc0]) := HX0.out.at hb1
  clear ka hb1 HT0 HX0
  have z0 := (HX1.out 0 _ rfl).c
  have z1 := (HX1.out 1 _ rfl).c
  have z2 := (HX1.out 2 _ rfl).c
  have z3 := (HX1.out 3 _ rfl).c
  have z4 := (HX1.out 4 _ rfl).c
  have z5 := (HX1.out 5 _ rfl).c
  obtain ⟨t, er, hp⟩ : ∃ t er, prR q = (t, er) := ⟨_, _, rfl⟩
  have HPR : Hid (prR q = (t, er)) := hp
  have kp := print_any q w1 w.heap.size _ HB1.out.size h5 (QI.keep HB1.out q HI.out) (HG.out.at HB1.out) (HP.out.on HB1.out) t er hp
  clear hp
  go_wp2_with fail
  refine kp.mono ?_
  rintro e w2 ⟨rfl, hb2⟩
  have HB2 : Hid (Below w.heap.size w w2) := bt HB1.out hb2
  have HT2 : Hid (Bx w2 w.heap.size [.slice la ln lc, .slice ra rn rc]) := HT1.out.at hb2
  have HX2 : Hid (Bx w2 (w.heap.size + 1) [.int .i64 k0, .string (tx c0), .int .i64 lo0, .int .i64 hi0, .slice wa0 wn0 wc0, .slice ka0 kn0 kc0]) := HX1.out.at hb2
  clear kp hb2 HT1 HX1 z0 z1 z2 z3 z4 z5
  by_cases h0 : er = 0
  rotate_left
  · have d0 : (er == 0) = false := by simpa using h0
    have d1 : (er != 0) = true := by simpa using h0
    go_wp2
    go_ret
    exact ⟨rfl, HB2.out⟩
  subst h0
  obtain ⟨hS, hrt, htl⟩ := prR_ok HI.out HPR.out
  have HRT : Hid (readT t = .ok q) := hrt
  have kr := read_let t (by omega) w2 (HG.out.at HB2.out)
  clear hS hrt
  go_wp2_with fail
  refine kr.mono ?_
  rintro e w3 ⟨⟨q1, er1, at1, k1, c1, lo1, hi1, wa1, wn1, wc1, ka1, kn1, kc1, rfl, hrd, hq1⟩, hb3⟩
  obtain ⟨rfl, he1, -⟩ := hrd.okz HRT.out
  have d0 : (er1 == 0) = true := by simpa using he1
  have d1 : (er1 != 0) = false := by simpa using he1
  clear he1
  have HQ3 : Hid (∀ W, Kp w2.heap.size w3 W → QI W W.heap.size q1 [.int .i64 k1, .string (tx c1), .int .i64 lo1, .int .i64 hi1, .slice wa1 wn1 wc1, .slice ka1 kn1 kc1]) := hq1
  have HB3 : Hid (Below w.heap.size w w3) := bt HB2.out hb3
  have HT3 : Hid (Bx w3 w.heap.size [.slice la ln lc, .slice ra rn rc]) := HT2.out.at hb3
  have HX3 : Hid (Bx w3 (w.heap.size + 1) [.int .i64 k0, .string (tx c0), .int .i64 lo0, .int .i64 hi0, .slice wa0 wn0 wc0, .slice ka0 kn0 kc0]) := HX2.out.at hb3
  clear kr hb3 hq1 hrd HT2 HX2
  obtain ⟨W4, hW4⟩ : ∃ W4, (w3.alloc (.cells #[.int .i64 k1, .string (tx c1), .int .i64 lo1, .int .i64 hi1, .slice wa1 wn1 wc1, .slice ka1 kn1 kc1] 25)).alloc (.cells #[.int .i64 er1, .int .i64 at1] 36) = W4 := ⟨_, rfl⟩
  have hb4 : Below w3.heap.size w3 W4 := hW4 ▸ bal (ba _ _) _
  have HY4 : Hid (Bx W4 w3.heap.size [.int .i64 k1, .string (tx c1), .int .i64 lo1, .int .i64 hi1, .slice wa1 wn1 wc1, .slice ka1 kn1 kc1]) := hW4 ▸ (Bx.new w3 [.int .i64 k1, .string (tx c1), .int .i64 lo1, .int .i64 hi1, .slice wa1 wn1 wc1, .slice ka1 kn1 kc1] 25 rfl).at (ba _ _)
  have HF4 : Hid (Bx W4 (w3.heap.size + 1) [.int .i64 er1, .int .i64 at1]) := hW4 ▸ Bx.new (w3.alloc (.cells #[.int .i64 k1, .string (tx c1), .int .i64 lo1, .int .i64 hi1, .slice wa1 wn1 wc1, .slice ka1 kn1 kc1] 25)) [.int .i64 er1, .int .i64 at1] 36 (by simp)
  have HB4 : Hid (Below w.heap.size w W4) := bt HB3.out hb4
  have HT4 : Hid (Bx W4 w.heap.size [.slice la ln lc, .slice ra rn rc]) := HT3.out.at hb4
  have HX4 : Hid (Bx W4 (w.heap.size + 1) [.int .i64 k0, .string (tx c0), .int .i64 lo0, .int .i64 hi0, .slice wa0 wn0 wc0, .slice ka0 kn0 kc0]) := HX3.out.at hb4
  have H34 : Hid (Below w3.heap.size w3 W4) := hb4
  obtain ⟨xs, er2, hrun⟩ : ∃ xs er2, K.runV (K.runT l (K.rr ts) (toK q1)) = (xs, er2) := ⟨_, _, rfl⟩
  have HRUN : Hid (K.runV (K.runT l (K.rr ts) (toK q1)) = (xs, er2)) := hrun
  have k5 := K.askRun_any l ts (toK q1) W4 w.heap.size _ _ _ _ _ _ _ _ xs er2 HB4.out.size (HC.out.keep HB4.out) (HR.out.keep HB4.out) (qm_of q1 (QI.keep HB4.out q1 HI.out)) hrun
  have f0 := (HF4.out 0 _ rfl).c
  have t0 := (HT4.out 0 _ rfl).c
  have t1 := (HT4.out 1 _ rfl).c
  have z0 := (HX4.out 0 _ rfl).c
  have z1 := (HX4.out 1 _ rfl).c
  have z2 := (HX4.out 2 _ rfl).c
  have z3 := (HX4.out 3 _ rfl).c
  have z4 := (HX4.out 4 _ rfl).c
  have z5 := (HX4.out 5 _ rfl).c
  clear hb4 hrun HT3 HX3
  go_wp2_with fail
  clear hW4
  refine k5.mono ?_
  rintro e w5 ⟨a5, c5, rfl, hi5, hb5⟩
  have HI5 : Hid (K.Ints w5 w5.heap.size w5.heap.size (.slice a5 xs.length c5) xs) := hi5
  have HB5 : Hid (Below w.heap.size w w5) := bt HB4.out hb5
  have HT5 : Hid (Bx w5 w.heap.size [.slice la ln lc, .slice ra rn rc]) := HT4.out.at hb5
  have HY5 : Hid (Bx w5 w3.heap.size [.int .i64 k1, .string (tx c1), .int .i64 lo1, .int .i64 hi1, .slice wa1 wn1 wc1, .slice ka1 kn1 kc1]) := HY4.out.at hb5
  have hq5 : QI w5 w5.heap.size q1 [.int .i64 k1, .string (tx c1), .int .i64 lo1, .int .i64 hi1, .slice wa1 wn1 wc1, .slice ka1 kn1 kc1] := HQ3.out w5 ((Kp.bl H34.out).trans (Kp.bl hb5))
  have k6 := K.askRun_any l ts (toK q1) w5 w5.heap.size _ _ _ _ _ _ _ _ xs er2 (Nat.le_refl _) ((HC.out.keep HB5.out).mono HB5.out.size) ((HR.out.keep HB5.out).mono HB5.out.size) (qm_of q1 hq5) HRUN.out
  clear k5 hi5 hb5 f0 t0 t1 z0 z1 z2 z3 z4 z5 hq5
  have t0 := (HT5.out 0 _ rfl).c
  have t1 := (HT5.out 1 _ rfl).c
  have z0 := (HY5.out 0 _ rfl).c
  have z1 := (HY5.out 1 _ rfl).c
  have z2 := (HY5.out 2 _ rfl).c
  have z3 := (HY5.out 3 _ rfl).c
  have z4 := (HY5.out 4 _ rfl).c
  have z5 := (HY5.out 5 _ rfl).c
  go_wp2_with fail
  refine k6.mono ?_
  rintro e w6 ⟨a6, c6, rfl, hi6, hb6⟩
  have HB6 : Hid (Below w.heap.size w w6) := bt HB5.out hb6
  have k7 := K.refCompare_any w6.heap.size w6.heap.size w6.heap.size _ _ xs xs w6 ((HI5.out.keep hb6).mono hb6.size (.inr hb6.size)) hi6 0 (cmp_self xs)
  have de : (er2 == er2) = true := by simp
  clear k6 hi6 hb6 t0 t1 z0 z1 z2 z3 z4 z5
  obtain ⟨nx, hnx⟩ : ∃ nx, xs.length = nx := ⟨_, rfl⟩
  rw [hnx] at k7
  try rw [hnx]
  clear hnx
  go_wp2_with fail
  refine k7.mono ?_
  rintro e w7 ⟨rfl, qd, rfl⟩
  go_wp2
  go_ret
  exact ⟨rfl, below_drewN HB6.out _⟩
end Go.Proofs.YtidfkencjdjkbaaGreatDoor
