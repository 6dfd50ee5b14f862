import Derived.Test.YtlndlpjadajelaaGreatQt50
namespace Go.Proofs.YtlndlpjadajelaaGreat
open Go.RowKit Go.Shelf Go.Proofs.YtlndlpjadajelaaGreat.Ds

set_option maxHeartbeats 2000000 in
set_option maxRecDepth 100000 in
theorem sampleThrough_walk (B : Nat) (pu pd u d lo hi : Int) (cv tv v0 v1 v2 v3 v4 v5 : Value) (l : List K.Ds.Col) (ts : List K.Rw) (q : K.Ds.Qu) (w : World) (hB : B ≤ w.heap.size) (hp : K.Cols w B cv l) (hr : K.Rws w B tv ts) (hq : K.Qm w B q v0 v1 v2 v3 v4 v5) :
    Calls Tryz.prog 6 #[rv pu pd, rv u d, .int .i64 lo, .int .i64 hi, .agg #[cv, tv], .agg #[v0, v1, v2, v3, v4, v5]] w fun e w' => e = .returned (.bool true) ∧ Below w.heap.size w w' := by
  have HP : Hid (K.Cols w B cv l) := hp
  have HR : Hid (K.Rws w B tv ts) := hr
  have HQ : Hid (K.Qm w B q v0 v1 v2 v3 v4 v5) := hq
  obtain ⟨⟨l', er⟩, HA⟩ : ∃ y, Hid (smpT pu pd u d lo hi l (K.rr ts) q = y) := ⟨_, rfl⟩
  obtain ⟨W, hW⟩ : ∃ W, (((w.alloc (.cells #[.int .i64 pu, .int .i64 pd] 23)).alloc (.cells #[.int .i64 u, .int .i64 d] 23)).alloc (.cells #[cv, tv] 27)).alloc (.cells #[v0, v1, v2, v3, v4, v5] 31) = W := ⟨_, rfl⟩
  have hbW : Below w.heap.size w W := hW ▸ bal (bal (bal (ba _ _) _) _) _
  have P0 : K.Cl W w.heap.size 0 (.int .i64 pu) := hW ▸ (((K.Cl.new _ 23 _ _ rfl rfl).at (ba _ _)).at (ba _ _)).at (ba _ _)
  have P1 : K.Cl W w.heap.size 1 (.int .i64 pd) := hW ▸ (((K.Cl.new _ 23 _ _ rfl rfl).at (ba _ _)).at (ba _ _)).at (ba _ _)
  have R0 : K.Cl W (w.heap.size + 1) 0 (.int .i64 u) := hW ▸ ((K.Cl.new _ 23 _ _ (by simp) rfl).at (ba _ _)).at (ba _ _)
  have R1 : K.Cl W (w.heap.size + 1) 1 (.int .i64 d) := hW ▸ ((K.Cl.new _ 23 _ _ (by simp) rfl).at (ba _ _)).at (ba _ _)
  have T0 : K.Cl W (w.heap.size + 2) 0 cv := hW ▸ (K.Cl.new _ 27 _ _ (by simp) rfl).at (ba _ _)
  have T1 : K.Cl W (w.heap.size + 2) 1 tv := hW ▸ (K.Cl.new _ 27 _ _ (by simp) rfl).at (ba _ _)
  have A0 : K.Bx W (w.heap.size + 3) v0 v1 v2 v3 v4 v5 := hW ▸ K.Bx.new _ _ (by simp) _ _ _ _ _ _
  have HE : Hid (Env6 W w.heap.size u d cv tv v0 v1 v2 v3 v4 v5 ∧ K.Cl W w.heap.size 0 (.int .i64 pu) ∧ K.Cl W w.heap.size 1 (.int .i64 pd)) := ⟨⟨R0, R1, T0, T1, A0⟩, P0, P1⟩
  have k1 := sampled_any B pu pd u d lo hi cv tv v0 v1 v2 v3 v4 v5 l ts q W (Nat.le_trans hB hbW.size) (hp.at hB hbW) (hr.at hB hbW) (hq.at hB hbW) l' er HA.out
  obtain ⟨la, lc, rfl, _⟩ := hp.slice
  obtain ⟨ra, rc, rfl, _⟩ := hr.slice
  obtain ⟨kk, kc, kl, kh, ka, kn, kd, kb, km, kp, rfl, rfl, rfl, rfl, rfl, rfl⟩ := hq.shape
  have m0 := P0.c
  have m1 := P1.c
  have m2 := R0.c
  have m3 := R1.c
  have m4 := T0.c
  have m5 := T1.c
  have n0 := A0.a0.c
  have n1 := A0.a1.c
  have n2 := A0.a2.c
  have n3 := A0.a3.c
  have n4 := A0.a4.c
  have n5 := A0.a5.c
  have z2 : (er == er) = true := by simp
  clear hp hr hq P0 P1 R0 R1 T0 T1 A0
  go_enter Tryz.func6, Tryz.ntmps6
  go_wp2_with fail
  clear hW
  refine k1.mono ?_
  rintro e w1 ⟨y1, us, rfl, j1, j2, hb1, _⟩
  have hbw1 := bt hbW hb1
  have HU : Hid (Parts w1 w1.heap.size y1 us ∧ rd us = l') := ⟨j2.parts, j1⟩
  obtain ⟨a1, c1, rfl⟩ := j2.slice
  have HE1 := HE.out.1.at hb1
  have p0 := (HE.out.2.1.at hb1).c
  have p1 := (HE.out.2.2.at hb1).c
  clear m0 m1 m2 m3 m4 m5 n0 n1 n2 n3 n4 n5 k1 j1 j2
  have m2 := HE1.r0.c
  have m3 := HE1.r1.c
  have m4 := HE1.t0.c
  have m5 := HE1.t1.c
  have n0 := HE1.a.a0.c
  have n1 := HE1.a.a1.c
  have n2 := HE1.a.a2.c
  have n3 := HE1.a.a3.c
  have n4 := HE1.a.a4.c
  have n5 := HE1.a.a5.c
  have k2 := rsampled_any B pu pd u d lo hi _ _ _ _ _ _ _ _ l ts q w1 (Nat.le_trans hB hbw1.size) (HP.out.at hB hbw1) (HR.out.at hB hbw1) (HQ.out.at hB hbw1) l' er HA.out
  clear HE HE1 hb1
  go_wp2_with fail
  refine k2.mono ?_
  rintro e w2 ⟨y2, us2, rfl, j1, j2, hb2⟩
  have hbw2 := bt hbw1 hb2
  have HU2 : Hid (Parts w2 w2.heap.size y2 us2 ∧ rd us2 = l') := ⟨j2.parts, j1⟩
  have HU1 : Hid (Parts w2 w2.heap.size (.slice a1 us.length c1) us) := (HU.out.1.keep hb2).mono hb2.size
  obtain ⟨a2, c2, rfl⟩ := j2.slice
  have ks := sameR_any w2.heap.size (.slice a1 us.length c1) (.slice a2 us2.length c2) us us2 w2 (Nat.le_refl _) HU1.out HU2.out.1 true (by rw [HU.out.2, HU2.out.2]; simp)
  clear m2 m3 m4 m5 n0 n1 n2 n3 n4 n5 p0 p1 k2 j1 j2 hb2
  go_wp2_with fail
  refine ks.mono ?_
  rintro e w3 ⟨rfl, hb3⟩
  have hbw3 := bt hbw2 hb3
  clear ks hb3
  go_wp2
  go_ret
  exact ⟨by first | rfl | simp, hbw3⟩
end Go.Proofs.YtlndlpjadajelaaGreat
