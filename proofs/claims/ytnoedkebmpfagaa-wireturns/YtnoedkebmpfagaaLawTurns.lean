import Derived.Test.YtnoedkebmpfagaaWtm
import Derived.Test.YtnoedkebmpfagaaWfr
import Derived.Test.YtnoedkebmpfagaaWsa
/-
  WireTurns: A MESSAGE HAS ONE CODE: the walk of the law.
-/
namespace Go.Proofs.Ytnoedkebmpfagaa
open Go.RowKit Wc

set_option maxHeartbeats 2000000 in
set_option maxRecDepth 100000 in
theorem wireTurns_walk (m : Msg) (sv : Value) (t : By) (ht : t.length ≤ 9223372036854775807) (w : World) (hI : MsgI w w.heap.size m sv) :
    Calls Try.prog 5 #[mv m sv, .string (tx t)] w fun e w' => e = .returned (.bool true) ∧ Below w.heap.size w w' := by
  obtain ⟨av, cv, hsv, -, hvl⟩ := hI.v.slice
  obtain ⟨L, hL⟩ : ∃ L, m.vals.length = L := ⟨_, rfl⟩
  rw [hL] at hsv hvl
  subst hsv
  have HI : Hid (MsgI w w.heap.size m (.slice av L cv)) := hI
  obtain ⟨W, hW⟩ : ∃ W, w.alloc (.cells #[.int .i64 m.kind, .string (tx m.ses), .int .i64 m.num, .string (tx m.pur), .string (tx m.txt), .int .i64 m.ru, .int .i64 m.rd, .int .i64 m.low, .int .i64 m.high, .int .i64 m.err, .slice av L cv, .int .i64 m.lu, .int .i64 m.ld] 27) = W := ⟨_, rfl⟩
  have bW : Below w.heap.size w W := by rw [← hW]; exact ba _ _
  have hB : Bx W w.heap.size [.int .i64 m.kind, .string (tx m.ses), .int .i64 m.num, .string (tx m.pur), .string (tx m.txt), .int .i64 m.ru, .int .i64 m.rd, .int .i64 m.low, .int .i64 m.high, .int .i64 m.err, .slice av L cv, .int .i64 m.lu, .int .i64 m.ld] := by rw [← hW]; exact Bx.new w _ 27 rfl
  have HB : Hid (Bx W w.heap.size [.int .i64 m.kind, .string (tx m.ses), .int .i64 m.num, .string (tx m.pur), .string (tx m.txt), .int .i64 m.ru, .int .i64 m.rd, .int .i64 m.low, .int .i64 m.high, .int .i64 m.err, .slice av L cv, .int .i64 m.lu, .int .i64 m.ld]) := hB
  have ka := alive_any W
  clear hI hB hL
  go_enter Try.func5, Try.ntmps5
  go_wp2_with fail
  refine ka.mono ?_
  rintro e w1 ⟨rfl, b1⟩
  clear ka hW
  have hB1 := HB.out.at b1
  have B1 : Below w.heap.size w w1 := bt bW b1
  have hI1 : MsgI w1 w1.heap.size m (.slice av L cv) := (HI.out.keep B1).mono B1.size
  obtain ⟨s, er, hp⟩ : ∃ s er, packT m = (s, er) := ⟨_, _, rfl⟩
  have HP : Hid (packT m = (s, er)) := hp
  have kp := pack_any m _ w1 hI1 s er hp
  have her : er = 0 ∨ er = 2 ∨ er = 4 := by have := pack_er m; rw [hp] at this; exact this
  clear hp
  have c0 := (hB1 0 _ rfl).c
  have c1 := (hB1 1 _ rfl).c
  have c2 := (hB1 2 _ rfl).c
  have c3 := (hB1 3 _ rfl).c
  have c4 := (hB1 4 _ rfl).c
  have c5 := (hB1 5 _ rfl).c
  have c6 := (hB1 6 _ rfl).c
  have c7 := (hB1 7 _ rfl).c
  have c8 := (hB1 8 _ rfl).c
  have c9 := (hB1 9 _ rfl).c
  have c10 := (hB1 10 _ rfl).c
  have c11 := (hB1 11 _ rfl).c
  have c12 := (hB1 12 _ rfl).c
  clear hI1
  go_wp2_with fail
  refine kp.mono ?_
  rintro e w2 ⟨rfl, b2⟩
  clear kp c0 c1 c2 c3 c4 c5 c6 c7 c8 c9 c10 c11 c12
  have B2 : Below w.heap.size w w2 := bt B1 b2
  have HB2 : Hid (Bx w2 w.heap.size _) := hB1.at b2
  clear hB1 b1 b2 bW HB B1
  rcases her with rfl | rfl | rfl
  · have hsl : s.length ≤ 9223372036854775807 := by
      have h := HP.out
      unfold packT at h
      split at h
      · split at h
        · simp at h
        · simp only [Prod.mk.injEq, and_true] at h
          subst h
          omega
      · simp at h
    have ku := unpack_any s hsl w2 m 0 (unp_pack HI.out.ok HP.out)
    go_wp2_with fail
    refine ku.mono ?_
    rintro e w3 ⟨sv2, rfl, nm2, b3⟩
    clear ku
    have B3 : Below w.heap.size w w3 := bt B2 b3
    obtain ⟨av2, cv2, hsv2, -, -⟩ := nm2.slice
    obtain ⟨L2, hL2⟩ : ∃ L, m.vals.length = L := ⟨_, rfl⟩
    rw [hL2] at hsv2
    subst hsv2
    have bY : Below w3.heap.size w3 (w3.alloc (.cells #[.int .i64 m.kind, .string (tx m.ses), .int .i64 m.num, .string (tx m.pur), .string (tx m.txt), .int .i64 m.ru, .int .i64 m.rd, .int .i64 m.low, .int .i64 m.high, .int .i64 m.err, .slice av2 L2 cv2, .int .i64 m.lu, .int .i64 m.ld] 27)) := ba _ _
    have hBY := Bx.new w3 [.int .i64 m.kind, .string (tx m.ses), .int .i64 m.num, .string (tx m.pur), .string (tx m.txt), .int .i64 m.ru, .int .i64 m.rd, .int .i64 m.low, .int .i64 m.high, .int .i64 m.err, .slice av2 L2 cv2, .int .i64 m.lu, .int .i64 m.ld] 27 rfl
    have hBM := (HB2.out.at b3).at bY
    have B4 : Below w.heap.size w (w3.alloc (.cells #[.int .i64 m.kind, .string (tx m.ses), .int .i64 m.num, .string (tx m.pur), .string (tx m.txt), .int .i64 m.ru, .int .i64 m.rd, .int .i64 m.low, .int .i64 m.high, .int .i64 m.err, .slice av2 L2 cv2, .int .i64 m.lu, .int .i64 m.ld] 27)) := bt B3 bY
    have ks := same_any m (.slice av2 L2 cv2) (.slice av L cv) (w3.alloc (.cells #[.int .i64 m.kind, .string (tx m.ses), .int .i64 m.num, .string (tx m.pur), .string (tx m.txt), .int .i64 m.ru, .int .i64 m.rd, .int .i64 m.low, .int .i64 m.high, .int .i64 m.err, .slice av2 L2 cv2, .int .i64 m.lu, .int .i64 m.ld] 27)) ((nm2.keep bY).mono bY.size) ((HI.out.v.keep B4).mono B4.size)
    clear nm2 hL2 b3 B3 bY
    have y0 := (hBY 0 _ rfl).c
    have y1 := (hBY 1 _ rfl).c
    have y2 := (hBY 2 _ rfl).c
    have y3 := (hBY 3 _ rfl).c
    have y4 := (hBY 4 _ rfl).c
    have y5 := (hBY 5 _ rfl).c
    have y6 := (hBY 6 _ rfl).c
    have y7 := (hBY 7 _ rfl).c
    have y8 := (hBY 8 _ rfl).c
    have y9 := (hBY 9 _ rfl).c
    have y10 := (hBY 10 _ rfl).c
    have y11 := (hBY 11 _ rfl).c
    have y12 := (hBY 12 _ rfl).c
    have z0 := (hBM 0 _ rfl).c
    have z1 := (hBM 1 _ rfl).c
    have z2 := (hBM 2 _ rfl).c
    have z3 := (hBM 3 _ rfl).c
    have z4 := (hBM 4 _ rfl).c
    have z5 := (hBM 5 _ rfl).c
    have z6 := (hBM 6 _ rfl).c
    have z7 := (hBM 7 _ rfl).c
    have z8 := (hBM 8 _ rfl).c
    have z9 := (hBM 9 _ rfl).c
    have z10 := (hBM 10 _ rfl).c
    have z11 := (hBM 11 _ rfl).c
    have z12 := (hBM 12 _ rfl).c
    clear hBY hBM
    go_wp2_with fail
    refine ks.mono ?_
    rintro e w4 ⟨rfl, b4⟩
    clear ks y0 y1 y2 y3 y4 y5 y6 y7 y8 y9 y10 y11 y12 z0 z1 z2 z3 z4 z5 z6 z7 z8 z9 z10 z11 z12
    have B4' : Below w.heap.size w w4 := bt B4 b4
    clear B4 b4 HB2 B2
    obtain ⟨x, e3, hu⟩ : ∃ x e3, unpT t = (x, e3) := ⟨_, _, rfl⟩
    have HU : Hid (unpT t = (x, e3)) := hu
    have ku := unpack_any t ht w4 x e3 hu
    have he3 : e3 = 0 ∨ e3 = 2 ∨ e3 = 4 := by have := unp_er t; rw [hu] at this; exact this
    clear hu
    go_wp2_with fail
    refine ku.mono ?_
    rintro e w5 ⟨sv3, rfl, nm3, b5⟩
    clear ku
    have B5 : Below w.heap.size w w5 := bt B4' b5
    obtain ⟨av3, cv3, hsv3, -, -⟩ := nm3.slice
    obtain ⟨L3, hL3⟩ : ∃ L, x.vals.length = L := ⟨_, rfl⟩
    rw [hL3] at hsv3
    subst hsv3
    have HN3 : Hid (Num w5 w5.heap.size (.slice av3 L3 cv3) x.vals) := nm3
    clear nm3 hL3
    rcases he3 with rfl | rfl | rfl
    · have bY : Below w5.heap.size w5 (w5.alloc (.cells #[.int .i64 x.kind, .string (tx x.ses), .int .i64 x.num, .string (tx x.pur), .string (tx x.txt), .int .i64 x.ru, .int .i64 x.rd, .int .i64 x.low, .int .i64 x.high, .int .i64 x.err, .slice av3 L3 cv3, .int .i64 x.lu, .int .i64 x.ld] 27)) := ba _ _
      have hBY := Bx.new w5 [.int .i64 x.kind, .string (tx x.ses), .int .i64 x.num, .string (tx x.pur), .string (tx x.txt), .int .i64 x.ru, .int .i64 x.rd, .int .i64 x.low, .int .i64 x.high, .int .i64 x.err, .slice av3 L3 cv3, .int .i64 x.lu, .int .i64 x.ld] 27 rfl
      have hnY : Num (w5.alloc (.cells #[.int .i64 x.kind, .string (tx x.ses), .int .i64 x.num, .string (tx x.pur), .string (tx x.txt), .int .i64 x.ru, .int .i64 x.rd, .int .i64 x.low, .int .i64 x.high, .int .i64 x.err, .slice av3 L3 cv3, .int .i64 x.lu, .int .i64 x.ld] 27)) (w5.alloc (.cells #[.int .i64 x.kind, .string (tx x.ses), .int .i64 x.num, .string (tx x.pur), .string (tx x.txt), .int .i64 x.ru, .int .i64 x.rd, .int .i64 x.low, .int .i64 x.high, .int .i64 x.err, .slice av3 L3 cv3, .int .i64 x.lu, .int .i64 x.ld] 27)).heap.size (.slice av3 L3 cv3) x.vals := (HN3.out.keep bY).mono bY.size
      have hIx := msgI_unp HU.out ht hnY
      have kp := pack_any x _ _ hIx t 0 (pack_unp HU.out).1
      have B6 : Below w.heap.size w (w5.alloc (.cells #[.int .i64 x.kind, .string (tx x.ses), .int .i64 x.num, .string (tx x.pur), .string (tx x.txt), .int .i64 x.ru, .int .i64 x.rd, .int .i64 x.low, .int .i64 x.high, .int .i64 x.err, .slice av3 L3 cv3, .int .i64 x.lu, .int .i64 x.ld] 27)) := bt B5 bY
      clear hnY hIx bY
      have x0 := (hBY 0 _ rfl).c
      have x1 := (hBY 1 _ rfl).c
      have x2 := (hBY 2 _ rfl).c
      have x3 := (hBY 3 _ rfl).c
      have x4 := (hBY 4 _ rfl).c
      have x5 := (hBY 5 _ rfl).c
      have x6 := (hBY 6 _ rfl).c
      have x7 := (hBY 7 _ rfl).c
      have x8 := (hBY 8 _ rfl).c
      have x9 := (hBY 9 _ rfl).c
      have x10 := (hBY 10 _ rfl).c
      have x11 := (hBY 11 _ rfl).c
      have x12 := (hBY 12 _ rfl).c
      clear hBY
      go_wp2_with fail
      refine kp.mono ?_
      rintro e w7 ⟨rfl, b7⟩
      clear kp x0 x1 x2 x3 x4 x5 x6 x7 x8 x9 x10 x11 x12
      have heq := eqs t t true (by simp)
      go_wp2
      go_ret
      exact ⟨rfl, bt B6 b7⟩
    · go_wp2
      go_ret
      exact ⟨rfl, bt B5 (ba _ _)⟩
    · go_wp2
      go_ret
      exact ⟨rfl, bt B5 (ba _ _)⟩
  · clear HB2
    obtain ⟨x, e3, hu⟩ : ∃ x e3, unpT t = (x, e3) := ⟨_, _, rfl⟩
    have HU : Hid (unpT t = (x, e3)) := hu
    have ku := unpack_any t ht w2 x e3 hu
    have he3 : e3 = 0 ∨ e3 = 2 ∨ e3 = 4 := by have := unp_er t; rw [hu] at this; exact this
    clear hu
    go_wp2_with fail
    refine ku.mono ?_
    rintro e w5 ⟨sv3, rfl, nm3, b5⟩
    clear ku
    have B5 : Below w.heap.size w w5 := bt B2 b5
    obtain ⟨av3, cv3, hsv3, -, -⟩ := nm3.slice
    obtain ⟨L3, hL3⟩ : ∃ L, x.vals.length = L := ⟨_, rfl⟩
    rw [hL3] at hsv3
    subst hsv3
    have HN3 : Hid (Num w5 w5.heap.size (.slice av3 L3 cv3) x.vals) := nm3
    clear nm3 hL3
    rcases he3 with rfl | rfl | rfl
    · have bY : Below w5.heap.size w5 (w5.alloc (.cells #[.int .i64 x.kind, .string (tx x.ses), .int .i64 x.num, .string (tx x.pur), .string (tx x.txt), .int .i64 x.ru, .int .i64 x.rd, .int .i64 x.low, .int .i64 x.high, .int .i64 x.err, .slice av3 L3 cv3, .int .i64 x.lu, .int .i64 x.ld] 27)) := ba _ _
      have hBY := Bx.new w5 [.int .i64 x.kind, .string (tx x.ses), .int .i64 x.num, .string (tx x.pur), .string (tx x.txt), .int .i64 x.ru, .int .i64 x.rd, .int .i64 x.low, .int .i64 x.high, .int .i64 x.err, .slice av3 L3 cv3, .int .i64 x.lu, .int .i64 x.ld] 27 rfl
      have hnY : Num (w5.alloc (.cells #[.int .i64 x.kind, .string (tx x.ses), .int .i64 x.num, .string (tx x.pur), .string (tx x.txt), .int .i64 x.ru, .int .i64 x.rd, .int .i64 x.low, .int .i64 x.high, .int .i64 x.err, .slice av3 L3 cv3, .int .i64 x.lu, .int .i64 x.ld] 27)) (w5.alloc (.cells #[.int .i64 x.kind, .string (tx x.ses), .int .i64 x.num, .string (tx x.pur), .string (tx x.txt), .int .i64 x.ru, .int .i64 x.rd, .int .i64 x.low, .int .i64 x.high, .int .i64 x.err, .slice av3 L3 cv3, .int .i64 x.lu, .int .i64 x.ld] 27)).heap.size (.slice av3 L3 cv3) x.vals := (HN3.out.keep bY).mono bY.size
      have hIx := msgI_unp HU.out ht hnY
      have kp := pack_any x _ _ hIx t 0 (pack_unp HU.out).1
      have B6 : Below w.heap.size w (w5.alloc (.cells #[.int .i64 x.kind, .string (tx x.ses), .int .i64 x.num, .string (tx x.pur), .string (tx x.txt), .int .i64 x.ru, .int .i64 x.rd, .int .i64 x.low, .int .i64 x.high, .int .i64 x.err, .slice av3 L3 cv3, .int .i64 x.lu, .int .i64 x.ld] 27)) := bt B5 bY
      clear hnY hIx bY
      have x0 := (hBY 0 _ rfl).c
      have x1 := (hBY 1 _ rfl).c
      have x2 := (hBY 2 _ rfl).c
      have x3 := (hBY 3 _ rfl).c
      have x4 := (hBY 4 _ rfl).c
      have x5 := (hBY 5 _ rfl).c
      have x6 := (hBY 6 _ rfl).c
      have x7 := (hBY 7 _ rfl).c
      have x8 := (hBY 8 _ rfl).c
      have x9 := (hBY 9 _ rfl).c
      have x10 := (hBY 10 _ rfl).c
      have x11 := (hBY 11 _ rfl).c
      have x12 := (hBY 12 _ rfl).c
      clear hBY
      go_wp2_with fail
      refine kp.mono ?_
      rintro e w7 ⟨rfl, b7⟩
      clear kp x0 x1 x2 x3 x4 x5 x6 x7 x8 x9 x10 x11 x12
      have heq := eqs t t true (by simp)
      go_wp2
      go_ret
      exact ⟨rfl, bt B6 b7⟩
    · go_wp2
      go_ret
      exact ⟨rfl, bt B5 (ba _ _)⟩
    · go_wp2
      go_ret
      exact ⟨rfl, bt B5 (ba _ _)⟩
  · clear HB2
    obtain ⟨x, e3, hu⟩ : ∃ x e3, unpT t = (x, e3) := ⟨_, _, rfl⟩
    have HU : Hid (unpT t = (x, e3)) := hu
    have ku := unpack_any t ht w2 x e3 hu
    have he3 : e3 = 0 ∨ e3 = 2 ∨ e3 = 4 := by have := unp_er t; rw [hu] at this; exact this
    clear hu
    go_wp2_with fail
    refine ku.mono ?_
    rintro e w5 ⟨sv3, rfl, nm3, b5⟩
    clear ku
    have B5 : Below w.heap.size w w5 := bt B2 b5
    obtain ⟨av3, cv3, hsv3, -, -⟩ := nm3.slice
    obtain ⟨L3, hL3⟩ : ∃ L, x.vals.length = L := ⟨_, rfl⟩
    rw [hL3] at hsv3
    subst hsv3
    have HN3 : Hid (Num w5 w5.heap.size (.slice av3 L3 cv3) x.vals) := nm3
    clear nm3 hL3
    rcases he3 with rfl | rfl | rfl
    · have bY : Below w5.heap.size w5 (w5.alloc (.cells #[.int .i64 x.kind, .string (tx x.ses), .int .i64 x.num, .string (tx x.pur), .string (tx x.txt), .int .i64 x.ru, .int .i64 x.rd, .int .i64 x.low, .int .i64 x.high, .int .i64 x.err, .slice av3 L3 cv3, .int .i64 x.lu, .int .i64 x.ld] 27)) := ba _ _
      have hBY := Bx.new w5 [.int .i64 x.kind, .string (tx x.ses), .int .i64 x.num, .string (tx x.pur), .string (tx x.txt), .int .i64 x.ru, .int .i64 x.rd, .int .i64 x.low, .int .i64 x.high, .int .i64 x.err, .slice av3 L3 cv3, .int .i64 x.lu, .int .i64 x.ld] 27 rfl
      have hnY : Num (w5.alloc (.cells #[.int .i64 x.kind, .string (tx x.ses), .int .i64 x.num, .string (tx x.pur), .string (tx x.txt), .int .i64 x.ru, .int .i64 x.rd, .int .i64 x.low, .int .i64 x.high, .int .i64 x.err, .slice av3 L3 cv3, .int .i64 x.lu, .int .i64 x.ld] 27)) (w5.alloc (.cells #[.int .i64 x.kind, .string (tx x.ses), .int .i64 x.num, .string (tx x.pur), .string (tx x.txt), .int .i64 x.ru, .int .i64 x.rd, .int .i64 x.low, .int .i64 x.high, .int .i64 x.err, .slice av3 L3 cv3, .int .i64 x.lu, .int .i64 x.ld] 27)).heap.size (.slice av3 L3 cv3) x.vals := (HN3.out.keep bY).mono bY.size
      have hIx := msgI_unp HU.out ht hnY
      have kp := pack_any x _ _ hIx t 0 (pack_unp HU.out).1
      have B6 : Below w.heap.size w (w5.alloc (.cells #[.int .i64 x.kind, .string (tx x.ses), .int .i64 x.num, .string (tx x.pur), .string (tx x.txt), .int .i64 x.ru, .int .i64 x.rd, .int .i64 x.low, .int .i64 x.high, .int .i64 x.err, .slice av3 L3 cv3, .int .i64 x.lu, .int .i64 x.ld] 27)) := bt B5 bY
      clear hnY hIx bY
      have x0 := (hBY 0 _ rfl).c
      have x1 := (hBY 1 _ rfl).c
      have x2 := (hBY 2 _ rfl).c
      have x3 := (hBY 3 _ rfl).c
      have x4 := (hBY 4 _ rfl).c
      have x5 := (hBY 5 _ rfl).c
      have x6 := (hBY 6 _ rfl).c
      have x7 := (hBY 7 _ rfl).c
      have x8 := (hBY 8 _ rfl).c
      have x9 := (hBY 9 _ rfl).c
      have x10 := (hBY 10 _ rfl).c
      have x11 := (hBY 11 _ rfl).c
      have x12 := (hBY 12 _ rfl).c
      clear hBY
      go_wp2_with fail
      refine kp.mono ?_
      rintro e w7 ⟨rfl, b7⟩
      clear kp x0 x1 x2 x3 x4 x5 x6 x7 x8 x9 x10 x11 x12
      have heq := eqs t t true (by simp)
      go_wp2
      go_ret
      exact ⟨rfl, bt B6 b7⟩
    · go_wp2
      go_ret
      exact ⟨rfl, bt B5 (ba _ _)⟩
    · go_wp2
      go_ret
      exact ⟨rfl, bt B5 (ba _ _)⟩
end Go.Proofs.Ytnoedkebmpfagaa
