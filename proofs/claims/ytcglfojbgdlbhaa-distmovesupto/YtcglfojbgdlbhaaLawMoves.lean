import Derived.Test.YtcglfojbgdlbhaaDmp
import Derived.Test.YtcglfojbgdlbhaaRmp
import Derived.Test.YtcglfojbgdlbhaaRbd
import Derived.Test.YtcglfojbgdlbhaaRkp
import Derived.Test.YtcglfojbgdlbhaaRbu
namespace Go.Proofs.Ytcglfojbgdlbhaa
open Go.RowKit Go.Proofs.Ytcglfojbgdlbhaa.Ds

theorem pmap_any (B : Nat) (v u : Value) (ts : List Tr) (ps : List Pr) (w : World) (hB : B ≤ w.heap.size) (hp : Parts w B v ts) (hq : Prs w B u ps) (l : List Pt) (er : Int) (hr : mapT (rd ts) (pd ps) = (l, er)) :
    Calls Try.prog 19 #[v, u] w fun e w' => ∃ v' us, e = .returned (.tuple #[v', .int .i64 er]) ∧ rd us = l ∧ OwnN w' w.heap.size v' us ∧ Below w.heap.size w w' := by
  have HP : Hid (Parts w B v ts) := hp
  have HQ : Hid (Prs w B u ps) := hq
  have HR : Hid (mapT (rd ts) (pd ps) = (l, er)) := hr
  obtain ⟨a, c, rfl, _⟩ := hp
  obtain ⟨ua, uc, rfl, _⟩ := hq
  have kc := dmap_any B w.heap.size (.slice a ts.length c) (.slice ua ps.length uc) ts ps (w.alloc (.cells #[.slice ua ps.length uc] 40)) (by simp; omega) (by simp) (by simp [go_sem]) (HP.out.at hB (ba _ _)) (HQ.out.at hB (ba _ _)) l er HR.out
  clear hr
  go_enter Try.func19, Try.ntmps19
  go_wp2_with fail
  refine kc.mono ?_
  rintro e w1 ⟨v1, us, rfl, h1, h2, h3⟩
  obtain ⟨b1, d1, rfl⟩ := h2.slice
  have hb : Below w.heap.size w w1 := bt (ba _ _) h3
  clear kc
  go_wp2
  exact bodyPost_ret (v := .tuple #[.slice b1 us.length d1, .int .i64 er]) (by simp [results, Try.results19, go_sem]) rfl ⟨_, us, rfl, h1, h2.mono (by simp), hb⟩
end Go.Proofs.Ytcglfojbgdlbhaa

namespace Go.Proofs.Ytcglfojbgdlbhaa
open Go.RowKit Go.Proofs.Ytcglfojbgdlbhaa.Ds

set_option maxHeartbeats 4000000 in
set_option maxRecDepth 100000 in
theorem distMoves_walk (B : Nat) (v0 v1 v2 v3 v4 : Value) (ts us : List Tr) (ps : List Pr) (fs : List Fl) (zs : List Vl) (w : World) (hB : B ≤ w.heap.size) (hp : Parts w B v0 ts) (hq : Parts w B v1 us) (hm : Prs w B v2 ps) (hf : Fws w B v3 fs) (hz : Lsts w B v4 zs ∧ zs.length ≤ 1073741824) :
    Calls Try.prog 4 #[v0, v1, v2, v3, v4] w fun e w' => e = .returned (.bool true) ∧ Below w.heap.size w w' := by
  have H0 : Hid (Parts w B v0 ts) := hp
  have H1 : Hid (Parts w B v1 us) := hq
  have H2 : Hid (Prs w B v2 ps) := hm
  have H3 : Hid (Fws w B v3 fs) := hf
  have H4 : Hid (Lsts w B v4 zs) := hz.1
  have hzl : zs.length ≤ 1073741824 := hz.2
  clear hz
  obtain ⟨a0, c0, rfl, _⟩ := hp
  obtain ⟨a1, c1, rfl, _⟩ := hq
  obtain ⟨a2, c2, rfl, _⟩ := hm
  obtain ⟨a3, c3, rfl, _⟩ := hf
  obtain ⟨a4, c4, rfl⟩ : ∃ a c, v4 = .slice a zs.length c := let ⟨a, c, h, _⟩ := H4.out; ⟨a, c, h⟩
  obtain ⟨⟨la, ea⟩, HA⟩ : ∃ x, Hid (mapT (rd ts) (pd ps) = x) := ⟨_, rfl⟩
  obtain ⟨⟨lb, eb⟩, HBd⟩ : ∃ x, Hid (bindT (rd ts) (thenT (fd fs)) = x) := ⟨_, rfl⟩
  obtain ⟨⟨lc, ec⟩, HC⟩ : ∃ x, Hid (bothT (rd ts) (rd us) = x) := ⟨_, rfl⟩
  obtain ⟨⟨ld, ed⟩, HD⟩ : ∃ x, Hid (keepT (rd ts) (zs.map (·.2)) = x) := ⟨_, rfl⟩
  have G0 : Below w.heap.size w w := Below.refl _ _
  go_enter Try.func4, Try.ntmps4
  go_wp2_with fail
  refine (pmap_any B _ _ ts ps w (Nat.le_trans hB G0.size) (H0.out.at hB G0) (H2.out.at hB G0) la ea HA.out).mono ?_
  rintro e x0 ⟨v0, u0, rfl, hr0, ho0, hb0⟩
  obtain ⟨p0, q0, rfl⟩ := ho0.slice
  have X0 : Below w.heap.size w x0 := bt G0 hb0
  go_wp2_with fail
  refine (mapR_any B _ _ ts ps x0 (Nat.le_trans hB X0.size) (H0.out.at hB X0) (H2.out.at hB X0) la ea HA.out).mono ?_
  rintro e y0 ⟨w0, t0, rfl, hs0, hp0, hd0⟩
  obtain ⟨r0, s0, rfl⟩ := hp0.slice
  have Y0 : Below w.heap.size w y0 := bt X0 hd0
  have ks := sameR_any y0.heap.size (.slice p0 u0.length q0) (.slice r0 t0.length s0) u0 t0 y0 (Nat.le_refl _) ((ho0.parts.at (Nat.le_refl _) hd0).mono hd0.size) hp0.parts true (decide_eq_true (by rw [hr0, hs0]))
  clear hr0 hs0 ho0 hp0 hd0 hb0 X0 G0
  go_wp2_with fail
  refine ks.mono ?_
  rintro e z0 ⟨rfl, hk0⟩
  have Z0 : Below w.heap.size w z0 := bt Y0 hk0
  clear ks hk0 Y0
  go_wp2_with fail
  refine (pbind_any B _ _ ts fs z0 (Nat.le_trans hB Z0.size) (H0.out.at hB Z0) (H3.out.at hB Z0) lb eb HBd.out).mono ?_
  rintro e x1 ⟨v1, u1, rfl, hr1, ho1, hb1, _⟩
  obtain ⟨p1, q1, rfl⟩ := ho1.slice
  have X1 : Below w.heap.size w x1 := bt Z0 hb1
  go_wp2_with fail
  refine (bindR_any B _ _ ts fs x1 (Nat.le_trans hB X1.size) (H0.out.at hB X1) (H3.out.at hB X1) lb eb HBd.out).mono ?_
  rintro e y1 ⟨w1, t1, rfl, hs1, hp1, hd1⟩
  obtain ⟨r1, s1, rfl⟩ := hp1.slice
  have Y1 : Below w.heap.size w y1 := bt X1 hd1
  have ks := sameR_any y1.heap.size (.slice p1 u1.length q1) (.slice r1 t1.length s1) u1 t1 y1 (Nat.le_refl _) ((ho1.parts.at (Nat.le_refl _) hd1).mono hd1.size) hp1.parts true (decide_eq_true (by rw [hr1, hs1]))
  clear hr1 hs1 ho1 hp1 hd1 hb1 X1 Z0
  go_wp2_with fail
  refine ks.mono ?_
  rintro e z1 ⟨rfl, hk1⟩
  have Z1 : Below w.heap.size w z1 := bt Y1 hk1
  clear ks hk1 Y1
  go_wp2_with fail
  refine (dboth_any B _ _ ts us z1 (Nat.le_trans hB Z1.size) (H0.out.at hB Z1) (H1.out.at hB Z1) lc ec HC.out).mono ?_
  rintro e x2 ⟨v2, u2, rfl, hr2, ho2, hb2⟩
  obtain ⟨p2, q2, rfl⟩ := ho2.slice
  have X2 : Below w.heap.size w x2 := bt Z1 hb2
  go_wp2_with fail
  refine (bothR_any B _ _ ts us x2 (Nat.le_trans hB X2.size) (H0.out.at hB X2) (H1.out.at hB X2) lc ec HC.out).mono ?_
  rintro e y2 ⟨w2, t2, rfl, hs2, hp2, hd2⟩
  obtain ⟨r2, s2, rfl⟩ := hp2.slice
  have Y2 : Below w.heap.size w y2 := bt X2 hd2
  have ks := sameR_any y2.heap.size (.slice p2 u2.length q2) (.slice r2 t2.length s2) u2 t2 y2 (Nat.le_refl _) ((ho2.parts.at (Nat.le_refl _) hd2).mono hd2.size) hp2.parts true (decide_eq_true (by rw [hr2, hs2]))
  clear hr2 hs2 ho2 hp2 hd2 hb2 X2 Z1
  go_wp2_with fail
  refine ks.mono ?_
  rintro e z2 ⟨rfl, hk2⟩
  have Z2 : Below w.heap.size w z2 := bt Y2 hk2
  clear ks hk2 Y2
  go_wp2_with fail
  refine (pkeep_any B _ _ ts zs z2 (Nat.le_trans hB Z2.size) (H0.out.at hB Z2) (H4.out.at hB Z2) hzl ld ed HD.out).mono ?_
  rintro e x3 ⟨v3, u3, rfl, hr3, ho3, hb3⟩
  obtain ⟨p3, q3, rfl⟩ := ho3.slice
  have X3 : Below w.heap.size w x3 := bt Z2 hb3
  go_wp2_with fail
  refine (keepR_any B _ _ ts zs x3 (Nat.le_trans hB X3.size) (H0.out.at hB X3) (H4.out.at hB X3) hzl ld ed HD.out).mono ?_
  rintro e y3 ⟨w3, t3, rfl, hs3, hp3, hd3⟩
  obtain ⟨r3, s3, rfl⟩ := hp3.slice
  have Y3 : Below w.heap.size w y3 := bt X3 hd3
  have ks := sameR_any y3.heap.size (.slice p3 u3.length q3) (.slice r3 t3.length s3) u3 t3 y3 (Nat.le_refl _) ((ho3.parts.at (Nat.le_refl _) hd3).mono hd3.size) hp3.parts true (decide_eq_true (by rw [hr3, hs3]))
  clear hr3 hs3 ho3 hp3 hd3 hb3 X3 Z2
  go_wp2_with fail
  refine ks.mono ?_
  rintro e z3 ⟨rfl, hk3⟩
  have Z3 : Below w.heap.size w z3 := bt Y3 hk3
  clear ks hk3 Y3
  go_wp2
  go_ret
  exact ⟨rfl, Z3⟩
end Go.Proofs.Ytcglfojbgdlbhaa
