import Derived.Test.YtnoedkebmpfagaaWro
import Derived.Test.YtnoedkebmpfagaaWrs
import Derived.Test.YtnoedkebmpfagaaWfr
import Derived.Test.YtnoedkebmpfagaaWsa
/-
  WirePacks: the walk of the law.
-/
namespace Go.Proofs.Ytnoedkebmpfagaa
open Go.RowKit Wc

set_option maxHeartbeats 4000000 in
set_option maxRecDepth 100000 in
theorem wirePacks_walk (m : Msg) (sv : Value) (t : By) (ht : t.length ≤ 9223372036854775807) (w : World) (hI : MsgI w w.heap.size m sv) (hs : m.ses.length ≤ 9007199254740992) (hp : m.pur.length ≤ 9007199254740992) (htx : m.txt.length ≤ 9007199254740992) (hv : m.vals.length ≤ 9007199254740992) :
    Calls Try.prog 3 #[mv m sv, .string (tx t)] w fun e w' => e = .returned (.bool true) ∧ Below w.heap.size w w' := by
  obtain ⟨av, cv, hsv, -, hvl⟩ := hI.v.slice
  have HQ : Hid (m.ses.length ≤ 9007199254740992 ∧ m.pur.length ≤ 9007199254740992 ∧ m.txt.length ≤ 9007199254740992 ∧ m.vals.length ≤ 9007199254740992) := ⟨hs, hp, htx, hv⟩
  obtain ⟨L, hL⟩ : ∃ L, m.vals.length = L := ⟨_, rfl⟩
  rw [hL] at hsv hvl
  subst hsv
  have HI : Hid (MsgI w w.heap.size m (.slice av L cv)) := hI
  obtain ⟨s, er, hP⟩ : ∃ s er, packT m = (s, er) := ⟨_, _, rfl⟩
  obtain ⟨x, e2, hU⟩ : ∃ x e, unpT t = (x, e) := ⟨_, _, rfl⟩
  obtain ⟨f, e3, hf⟩ : ∃ f e, frmT t = (f, e) := ⟨_, _, rfl⟩
  have HP : Hid (packT m = (s, er)) := hP
  have kf := fun V => frame_any t ht V f e3 hf
  have kg := fun V => refframe_any t ht V f e3 hf
  have ku := fun V => unpack_any t ht V x e2 hU
  have kv := fun V => refunp_any t V x e2 hU
  obtain ⟨W, hW⟩ : ∃ W, w.alloc (.cells #[.int .i64 m.kind, .string (tx m.ses), .int .i64 m.num, .string (tx m.pur), .string (tx m.txt), .int .i64 m.ru, .int .i64 m.rd, .int .i64 m.low, .int .i64 m.high, .int .i64 m.err, .slice av L cv, .int .i64 m.lu, .int .i64 m.ld] 27) = W := ⟨_, rfl⟩
  have bW : Below w.heap.size w W := by rw [← hW]; exact ba _ _
  have hB : Bx W w.heap.size [.int .i64 m.kind, .string (tx m.ses), .int .i64 m.num, .string (tx m.pur), .string (tx m.txt), .int .i64 m.ru, .int .i64 m.rd, .int .i64 m.low, .int .i64 m.high, .int .i64 m.err, .slice av L cv, .int .i64 m.lu, .int .i64 m.ld] := by rw [← hW]; exact Bx.new w _ 27 rfl
  have kp := pack_any m _ W ((HI.out.keep bW).mono bW.size) s er hP
  clear hI hL hP hU hf hs hp htx hv hvl
  have c0 := (hB 0 _ rfl).c
  have c1 := (hB 1 _ rfl).c
  have c2 := (hB 2 _ rfl).c
  have c3 := (hB 3 _ rfl).c
  have c4 := (hB 4 _ rfl).c
  have c5 := (hB 5 _ rfl).c
  have c6 := (hB 6 _ rfl).c
  have c7 := (hB 7 _ rfl).c
  have c8 := (hB 8 _ rfl).c
  have c9 := (hB 9 _ rfl).c
  have c10 := (hB 10 _ rfl).c
  have c11 := (hB 11 _ rfl).c
  have c12 := (hB 12 _ rfl).c
  go_enter Try.func3, Try.ntmps3
  go_wp2_with fail
  refine kp.mono ?_
  rintro e w1 ⟨rfl, b1⟩
  clear kp hW
  clear c0 c1 c2 c3 c4 c5 c6 c7 c8 c9 c10 c11 c12
  have hB := hB.at b1
  have bW : Below w.heap.size w w1 := bt bW b1
  have kq := refpack_any m _ w1 ((HI.out.keep bW).mono bW.size) HQ.out.1 HQ.out.2.1 HQ.out.2.2.1 HQ.out.2.2.2 s er HP.out
  clear b1
  have c0 := (hB 0 _ rfl).c
  have c1 := (hB 1 _ rfl).c
  have c2 := (hB 2 _ rfl).c
  have c3 := (hB 3 _ rfl).c
  have c4 := (hB 4 _ rfl).c
  have c5 := (hB 5 _ rfl).c
  have c6 := (hB 6 _ rfl).c
  have c7 := (hB 7 _ rfl).c
  have c8 := (hB 8 _ rfl).c
  have c9 := (hB 9 _ rfl).c
  have c10 := (hB 10 _ rfl).c
  have c11 := (hB 11 _ rfl).c
  have c12 := (hB 12 _ rfl).c
  go_wp2_with fail
  refine kq.mono ?_
  rintro e w2 ⟨rfl, b2⟩
  clear kq hB
  clear c0 c1 c2 c3 c4 c5 c6 c7 c8 c9 c10 c11 c12
  have bW : Below w.heap.size w w2 := bt bW b2
  clear b2
  go_wp2_with fail
  refine (ku _).mono ?_
  rintro e w3 ⟨sv2, rfl, n2, b3⟩
  clear ku
  have bW : Below w.heap.size w w3 := bt bW b3
  clear b3
  obtain ⟨a2, c2, hsv2, -, -⟩ := n2.slice
  have N2 : Hid (Num w3 w3.heap.size sv2 x.vals) := n2
  obtain ⟨L2, hL2⟩ : ∃ L, x.vals.length = L := ⟨_, rfl⟩
  rw [hL2] at hsv2
  subst hsv2
  have HL2 : Hid (x.vals.length = L2) := hL2
  clear n2 hL2
  have hBX : Hid (Bx (w3.alloc (.cells #[.int .i64 x.kind, .string (tx x.ses), .int .i64 x.num, .string (tx x.pur), .string (tx x.txt), .int .i64 x.ru, .int .i64 x.rd, .int .i64 x.low, .int .i64 x.high, .int .i64 x.err, .slice a2 L2 c2, .int .i64 x.lu, .int .i64 x.ld] 27)) w3.heap.size [.int .i64 x.kind, .string (tx x.ses), .int .i64 x.num, .string (tx x.pur), .string (tx x.txt), .int .i64 x.ru, .int .i64 x.rd, .int .i64 x.low, .int .i64 x.high, .int .i64 x.err, .slice a2 L2 c2, .int .i64 x.lu, .int .i64 x.ld]) := Bx.new w3 _ 27 rfl
  have bX : Hid (Below w3.heap.size w3 (w3.alloc (.cells #[.int .i64 x.kind, .string (tx x.ses), .int .i64 x.num, .string (tx x.pur), .string (tx x.txt), .int .i64 x.ru, .int .i64 x.rd, .int .i64 x.low, .int .i64 x.high, .int .i64 x.err, .slice a2 L2 c2, .int .i64 x.lu, .int .i64 x.ld] 27))) := ba _ _
  go_wp2_with fail
  refine (kv _).mono ?_
  rintro e w4 ⟨sv3, rfl, n3, b4⟩
  clear kv
  obtain ⟨a3, c3, hsv3, -, -⟩ := n3.slice
  have N3 : Hid (Num w4 w4.heap.size sv3 x.vals) := n3
  rw [HL2.out] at hsv3
  subst hsv3
  clear n3
  have bY : Hid (Below w4.heap.size w4 (w4.alloc (.cells #[.int .i64 x.kind, .string (tx x.ses), .int .i64 x.num, .string (tx x.pur), .string (tx x.txt), .int .i64 x.ru, .int .i64 x.rd, .int .i64 x.low, .int .i64 x.high, .int .i64 x.err, .slice a3 L2 c3, .int .i64 x.lu, .int .i64 x.ld] 27))) := ba _ _
  have hBY : Bx (w4.alloc (.cells #[.int .i64 x.kind, .string (tx x.ses), .int .i64 x.num, .string (tx x.pur), .string (tx x.txt), .int .i64 x.ru, .int .i64 x.rd, .int .i64 x.low, .int .i64 x.high, .int .i64 x.err, .slice a3 L2 c3, .int .i64 x.lu, .int .i64 x.ld] 27)) w4.heap.size [.int .i64 x.kind, .string (tx x.ses), .int .i64 x.num, .string (tx x.pur), .string (tx x.txt), .int .i64 x.ru, .int .i64 x.rd, .int .i64 x.low, .int .i64 x.high, .int .i64 x.err, .slice a3 L2 c3, .int .i64 x.lu, .int .i64 x.ld] := Bx.new w4 _ 27 rfl
  have hBZ : Bx (w4.alloc (.cells #[.int .i64 x.kind, .string (tx x.ses), .int .i64 x.num, .string (tx x.pur), .string (tx x.txt), .int .i64 x.ru, .int .i64 x.rd, .int .i64 x.low, .int .i64 x.high, .int .i64 x.err, .slice a3 L2 c3, .int .i64 x.lu, .int .i64 x.ld] 27)) w3.heap.size [.int .i64 x.kind, .string (tx x.ses), .int .i64 x.num, .string (tx x.pur), .string (tx x.txt), .int .i64 x.ru, .int .i64 x.rd, .int .i64 x.low, .int .i64 x.high, .int .i64 x.err, .slice a2 L2 c2, .int .i64 x.lu, .int .i64 x.ld] := (hBX.out.at b4).at bY.out
  have b34 : Below w3.heap.size w3 (w4.alloc (.cells #[.int .i64 x.kind, .string (tx x.ses), .int .i64 x.num, .string (tx x.pur), .string (tx x.txt), .int .i64 x.ru, .int .i64 x.rd, .int .i64 x.low, .int .i64 x.high, .int .i64 x.err, .slice a3 L2 c3, .int .i64 x.lu, .int .i64 x.ld] 27)) := bt (bt bX.out b4) bY.out
  have bW : Hid (Below w.heap.size w (w4.alloc (.cells #[.int .i64 x.kind, .string (tx x.ses), .int .i64 x.num, .string (tx x.pur), .string (tx x.txt), .int .i64 x.ru, .int .i64 x.rd, .int .i64 x.low, .int .i64 x.high, .int .i64 x.err, .slice a3 L2 c3, .int .i64 x.lu, .int .i64 x.ld] 27))) := bt bW b34
  have ks := same_any x (.slice a2 L2 c2) (.slice a3 L2 c3) (w4.alloc (.cells #[.int .i64 x.kind, .string (tx x.ses), .int .i64 x.num, .string (tx x.pur), .string (tx x.txt), .int .i64 x.ru, .int .i64 x.rd, .int .i64 x.low, .int .i64 x.high, .int .i64 x.err, .slice a3 L2 c3, .int .i64 x.lu, .int .i64 x.ld] 27)) ((N2.out.keep b34).mono b34.size) ((N3.out.keep bY.out).mono bY.out.size)
  clear b34 b4 bX hBX N2 N3 bY
  have y0 := (hBY 0 _ rfl).c
  have z0 := (hBZ 0 _ rfl).c
  have y1 := (hBY 1 _ rfl).c
  have z1 := (hBZ 1 _ rfl).c
  have y2 := (hBY 2 _ rfl).c
  have z2 := (hBZ 2 _ rfl).c
  have y3 := (hBY 3 _ rfl).c
  have z3 := (hBZ 3 _ rfl).c
  have y4 := (hBY 4 _ rfl).c
  have z4 := (hBZ 4 _ rfl).c
  have y5 := (hBY 5 _ rfl).c
  have z5 := (hBZ 5 _ rfl).c
  have y6 := (hBY 6 _ rfl).c
  have z6 := (hBZ 6 _ rfl).c
  have y7 := (hBY 7 _ rfl).c
  have z7 := (hBZ 7 _ rfl).c
  have y8 := (hBY 8 _ rfl).c
  have z8 := (hBZ 8 _ rfl).c
  have y9 := (hBY 9 _ rfl).c
  have z9 := (hBZ 9 _ rfl).c
  have y10 := (hBY 10 _ rfl).c
  have z10 := (hBZ 10 _ rfl).c
  have y11 := (hBY 11 _ rfl).c
  have z11 := (hBZ 11 _ rfl).c
  have y12 := (hBY 12 _ rfl).c
  have z12 := (hBZ 12 _ rfl).c
  clear hBY hBZ
  go_wp2_with fail
  refine ks.mono ?_
  rintro e w5 ⟨rfl, b5⟩
  clear ks
  have bW : Hid (Below w.heap.size w w5) := bt bW.out b5
  clear b5 y0 z0 y1 z1 y2 z2 y3 z3 y4 z4 y5 z5 y6 z6 y7 z7 y8 z8 y9 z9 y10 z10 y11 z11 y12 z12
  go_wp2_with fail
  refine (kf _).mono ?_
  rintro e w6 ⟨rfl, b6⟩
  clear kf
  go_wp2_with fail
  refine (kg _).mono ?_
  rintro e w7 ⟨rfl, b7⟩
  clear kg
  have bW : Hid (Below w.heap.size w w7) := bt (bt bW.out b6) b7
  clear b6 b7
  go_wp2
  go_ret
  exact ⟨rfl, bW.out⟩
end Go.Proofs.Ytnoedkebmpfagaa
