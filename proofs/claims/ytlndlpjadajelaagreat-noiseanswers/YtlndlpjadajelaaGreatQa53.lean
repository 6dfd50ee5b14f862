import Derived.Test.YtlndlpjadajelaaGreatQa52
namespace Go.Proofs.YtlndlpjadajelaaGreat
open Go.RowKit Go.Proofs.YtlndlpjadajelaaGreat.Ds
set_option maxHeartbeats 4000000 in
set_option maxRecDepth 100000 in
theorem ranswerN_any (B : Nat) (u d lo hi : Int) (cv tv v0 v1 v2 v3 v4 v5 : Value) (l : List K.Ds.Col) (ts : List K.Rw) (q : K.Ds.Qu) (w : World) (hB : B ≤ w.heap.size) (hp : K.Cols w B cv l) (hr : K.Rws w B tv ts) (hq : K.Qm w B q v0 v1 v2 v3 v4 v5) (hlo : I64 lo) (hhi : I64 hi)
    (ls : List (List Pt)) (p' q' er : Int) (hA : ansT u d lo hi l (K.rr ts) q = (ls, p', q', er)) :
    Calls Tryz.prog 9 #[rv u d, .int .i64 lo, .int .i64 hi, .agg #[cv, tv], .agg #[v0, v1, v2, v3, v4, v5]] w (AnsQ w ls p' q' er) := by
  have HP : Hid (K.Cols w B cv l) := hp
  have HRW : Hid (K.Rws w B tv ts) := hr
  have HQ : Hid (K.Qm w B q v0 v1 v2 v3 v4 v5) := hq
  have HI : Hid (I64 lo ∧ I64 hi) := ⟨hlo, hhi⟩
  obtain ⟨⟨xs, e1⟩, hx⟩ : ∃ y, K.runV (K.runT l (K.rr ts) q) = y := ⟨_, rfl⟩
  have hbd := run_bd hq hx
  obtain ⟨⟨hl, e2⟩, hh⟩ : ∃ y, hidsT u d lo hi xs = y := ⟨_, rfl⟩
  obtain ⟨⟨⟨b1, b2, b3⟩, e3⟩, ht⟩ : ∃ y, K.typV (K.typ l q) = y := ⟨_, rfl⟩
  obtain ⟨⟨p, q1, e4⟩, hlo'⟩ : ∃ y, lostT u d b2 = y := ⟨_, rfl⟩
  unfold ansT at hA
  rw [hx, hh, ht] at hA
  simp only at hA
  rw [hlo'] at hA
  simp only at hA
  obtain ⟨la, lc, rfl, _⟩ := hp.slice
  obtain ⟨ra, rc, rfl, _⟩ := hr.slice
  obtain ⟨kk, kc, kl, kh, ka, kn, kd, kb, km, kp, rfl, rfl, rfl, rfl, rfl, rfl⟩ := hq.shape
  have hb0 : Below w.heap.size w ((((w.alloc (.cells #[.int .i64 u, .int .i64 d] 23)).alloc (.cells #[.slice la l.length lc, .slice ra ts.length rc] 27)).alloc (.cells #[.int .i64 kk, .string kc, .int .i64 kl, .int .i64 kh, .slice ka kn kd, .slice kb km kp] 31)).alloc (.cells #[.int .i64 0, .int .i64 0] 23)) := bal (bal (bal (ba _ _) _) _) _
  have HN0 : Hid (Nb ((((w.alloc (.cells #[.int .i64 u, .int .i64 d] 23)).alloc (.cells #[.slice la l.length lc, .slice ra ts.length rc] 27)).alloc (.cells #[.int .i64 kk, .string kc, .int .i64 kl, .int .i64 kh, .slice ka kn kd, .slice kb km kp] 31)).alloc (.cells #[.int .i64 0, .int .i64 0] 23)) w.heap.size u d (.slice la l.length lc) (.slice ra ts.length rc) (.int .i64 kk) (.string kc) (.int .i64 kl) (.int .i64 kh) (.slice ka kn kd) (.slice kb km kp)) := Nb.new _ _ _ _ _ _ _ _ _ _ _
  have HXS : Hid (K.runV (K.runT l (K.rr ts) q) = (xs, e1) ∧ xs.length ≤ 4096 ∧ (∀ n ∈ xs, I64 n)) := ⟨hx, hbd.1, hbd.2⟩
  have HHS : Hid (hidsT u d lo hi xs = (hl, e2)) := hh
  have HTY : Hid (K.typV (K.typ l q) = ((b1, b2, b3), e3)) := ht
  have HLO : Hid (lostT u d b2 = (p, q1, e4)) := hlo'
  have HA : Hid ((if e1 ≠ 0 then (([], 0, 0, e1) : List (List Pt) × Int × Int × Int) else if e2 ≠ 0 then ([], 0, 0, e2) else if e4 ≠ 0 then ([], 0, 0, e4) else (hl, p, q1, 0)) = (ls, p', q', er)) := hA
  have hxl : xs.length ≤ 4096 := hbd.1
  clear hx hh ht hlo' hA hp hr hq hbd hlo hhi
  obtain ⟨w0, hw0⟩ : ∃ w0, ((((w.alloc (.cells #[.int .i64 u, .int .i64 d] 23)).alloc (.cells #[.slice la l.length lc, .slice ra ts.length rc] 27)).alloc (.cells #[.int .i64 kk, .string kc, .int .i64 kl, .int .i64 kh, .slice ka kn kd, .slice kb km kp] 31)).alloc (.cells #[.int .i64 0, .int .i64 0] 23)) = w0 := ⟨_, rfl⟩
  rw [hw0] at hb0 HN0
  have kr := K.rrun_any l ts q w0 B _ _ _ _ _ _ _ _ xs e1 (Nat.le_trans hB hb0.size) (HP.out.at hB hb0) (HRW.out.at hB hb0) (HQ.out.at hB hb0) HXS.out.1
  have mr0 := HN0.out.r0.c
  have mr1 := HN0.out.r1.c
  have mt0 := HN0.out.t0.c
  have mt1 := HN0.out.t1.c
  have ma0 := HN0.out.a0.c
  have ma1 := HN0.out.a1.c
  have ma2 := HN0.out.a2.c
  have ma3 := HN0.out.a3.c
  have ma4 := HN0.out.a4.c
  have ma5 := HN0.out.a5.c
  have mz0 := HN0.out.z0.c
  have mz1 := HN0.out.z1.c
  have mf0 := HN0.out.z0.f
  have mf1 := HN0.out.z1.f
  go_enter Tryz.func9, Tryz.ntmps9
  go_wp2_with fail
  clear hw0 mr0 mr1 mt0 mt1 ma0 ma1 ma2 ma3 ma4 ma5 mz0 mz1 mf0 mf1
  refine kr.mono ?_
  rintro e w1 ⟨xa, xc, rfl, hI1, hb1⟩
  have hbw1 := bt hb0 hb1
  have HN : Hid (Nb w1 w.heap.size u d (.slice la l.length lc) (.slice ra ts.length rc) (.int .i64 kk) (.string kc) (.int .i64 kl) (.int .i64 kh) (.slice ka kn kd) (.slice kb km kp)) := HN0.out.at hb1
  have hlw1 : w.heap.size + 1 + 1 + 1 < w1.heap.size := HN.out.z0.lt
  have HXI : Hid (Ints w1 w1.heap.size w1.heap.size (.slice xa xs.length xc) xs) := ints_K hI1 (by omega)
  clear kr hI1 hb1 HN0 hb0
  by_cases h1 : e1 = 0
  · subst h1
    have hA := HA.out
    rw [if_neg (by simp)] at hA
    have mr0 := HN.out.r0.c
    have mr1 := HN.out.r1.c
    have mt0 := HN.out.t0.c
    have mt1 := HN.out.t1.c
    have ma0 := HN.out.a0.c
    have ma1 := HN.out.a1.c
    have ma2 := HN.out.a2.c
    have ma3 := HN.out.a3.c
    have ma4 := HN.out.a4.c
    have ma5 := HN.out.a5.c
    have mz0 := HN.out.z0.c
    have mz1 := HN.out.z1.c
    have mf0 := HN.out.z0.f
    have mf1 := HN.out.z1.f
    have khd := hidesB u d lo hi xa xc xs w1 HXI HI.out.1 HI.out.2 HXS.out.2.2 hxl hl e2 HHS
    go_wp2_with fail
    refine khd.mono ?_
    rintro e w2 ⟨v2, zs, rfl, k1, k2, k3⟩
    have HD2 : Hid (DssA w2 w1.heap.size v2 zs ∧ rds zs = hl) := ⟨(id k2), k1⟩
    obtain ⟨a2, c2, hv2, _⟩ := (id k2)
    subst hv2
    have hbw2 := bt hbw1 k3
    have HN2 : Hid (Nb w2 w.heap.size u d (.slice la l.length lc) (.slice ra ts.length rc) (.int .i64 kk) (.string kc) (.int .i64 kl) (.int .i64 kh) (.slice ka kn kd) (.slice kb km kp)) := HN.out.at k3
    have hzl : zs.length ≤ 4096 := by
      have e1 := congrArg List.length HD2.out.2
      rw [rds_len] at e1
      have := hids_len HHS.out
      omega
    clear khd k1 k2 k3 mr0 mr1 mt0 mt1 ma0 ma1 ma2 ma3 ma4 ma5 mz0 mz1 mf0 mf1 HN
    by_cases h2 : e2 = 0
    · subst h2
      rw [if_neg (by simp)] at hA
      have mr0 := HN2.out.r0.c
      have mr1 := HN2.out.r1.c
      have mt0 := HN2.out.t0.c
      have mt1 := HN2.out.t1.c
      have ma0 := HN2.out.a0.c
      have ma1 := HN2.out.a1.c
      have ma2 := HN2.out.a2.c
      have ma3 := HN2.out.a3.c
      have ma4 := HN2.out.a4.c
      have ma5 := HN2.out.a5.c
      have mz0 := HN2.out.z0.c
      have mz1 := HN2.out.z1.c
      have mf0 := HN2.out.z0.f
      have mf1 := HN2.out.z1.f
      have kt := K.rtype_any l q w2 B _ _ _ _ _ _ _ b1 b2 b3 e3 (Nat.le_trans hB hbw2.size) (HP.out.at hB hbw2) (HQ.out.at hB hbw2) HTY.out
      go_wp2_with fail
      refine kt.mono ?_
      rintro e w3 ⟨rfl, hb3⟩
      have hbw3 := bt hbw2 hb3
      have HN3 : Hid (Nb (w3.alloc (.cells #[.int .i64 b1, .int .i64 b2, .int .i64 b3] 61)) w.heap.size u d (.slice la l.length lc) (.slice ra ts.length rc) (.int .i64 kk) (.string kc) (.int .i64 kl) (.int .i64 kh) (.slice ka kn kd) (.slice kb km kp)) := (HN2.out.at hb3).at (ba _ _)
      have HD3 : Hid (DssA (w3.alloc (.cells #[.int .i64 b1, .int .i64 b2, .int .i64 b3] 61)) w1.heap.size (.slice a2 zs.length c2) zs) := HD2.out.1.keep (bal hb3 _)
      have hbw3' := bal hbw3 (.cells #[.int .i64 b1, .int .i64 b2, .int .i64 b3] 61)
      clear kt hb3 mr0 mr1 mt0 mt1 ma0 ma1 ma2 ma3 ma4 ma5 mz0 mz1 mf0 mf1 HN2
      have mr0 := HN3.out.r0.c
      have mr1 := HN3.out.r1.c
      have mt0 := HN3.out.t0.c
      have mt1 := HN3.out.t1.c
      have ma0 := HN3.out.a0.c
      have ma1 := HN3.out.a1.c
      have ma2 := HN3.out.a2.c
      have ma3 := HN3.out.a3.c
      have ma4 := HN3.out.a4.c
      have ma5 := HN3.out.a5.c
      have mz0 := HN3.out.z0.c
      have mz1 := HN3.out.z1.c
      have mf0 := HN3.out.z0.f
      have mf1 := HN3.out.z1.f
      go_wp2_with fail
      refine (rlost_any u d b2 p q1 e4 HLO.out _).mono ?_
      rintro e w4 ⟨rfl, hb4⟩
      have hbw4 := bt hbw3' hb4
      have HN4 : Hid (Nb w4 w.heap.size u d (.slice la l.length lc) (.slice ra ts.length rc) (.int .i64 kk) (.string kc) (.int .i64 kl) (.int .i64 kh) (.slice ka kn kd) (.slice kb km kp)) := HN3.out.at hb4
      have HD4 : Hid (DssA w4 w1.heap.size (.slice a2 zs.length c2) zs) := HD3.out.keep hb4
      clear hb4 mr0 mr1 mt0 mt1 ma0 ma1 ma2 ma3 ma4 ma5 mz0 mz1 mf0 mf1 HN3 HD3
      by_cases h4 : e4 = 0
      · subst h4
        rw [if_neg (by simp)] at hA
        simp only [Prod.mk.injEq] at hA
        obtain ⟨rfl, rfl, rfl, rfl⟩ := hA
        have HN5 : Hid (Nb (w4.alloc (.cells #[.int .i64 p, .int .i64 q1] 23)) w.heap.size u d (.slice la l.length lc) (.slice ra ts.length rc) (.int .i64 kk) (.string kc) (.int .i64 kl) (.int .i64 kh) (.slice ka kn kd) (.slice kb km kp)) := HN4.out.at (ba _ _)
        have HC5 : Hid (Fc w4.heap.size p q1 (w4.alloc (.cells #[.int .i64 p, .int .i64 q1] 23))) := fc_new _ _ _
        obtain ⟨j1, j2, j3, j4⟩ := HC5.out
        obtain ⟨W, hW⟩ : ∃ W, w4.alloc (.cells #[.int .i64 p, .int .i64 q1] 23) = W := ⟨_, rfl⟩
        have hbW : Below w.heap.size w W := hW ▸ bal hbw4 _
        have HDW : Hid (DssA W w1.heap.size (.slice a2 zs.length c2) zs) := hW ▸ HD4.out.keep (ba _ _)
        have hlW : w.heap.size + 1 + 1 + 1 < W.heap.size := hW ▸ HN5.out.z0.lt
        rw [hW] at HN5 j1 j2 j3 j4
        have mr0 := HN5.out.r0.c
        have mr1 := HN5.out.r1.c
        have mt0 := HN5.out.t0.c
        have mt1 := HN5.out.t1.c
        have ma0 := HN5.out.a0.c
        have ma1 := HN5.out.a1.c
        have ma2 := HN5.out.a2.c
        have ma3 := HN5.out.a3.c
        have ma4 := HN5.out.a4.c
        have ma5 := HN5.out.a5.c
        have mz0 := HN5.out.z0.c
        have mz1 := HN5.out.z1.c
        have mf0 := HN5.out.z0.f
        have mf1 := HN5.out.z1.f
        go_wp2_with fail
        clear hW
        go_region_law (fail)
        go_wp2
        exact bodyPost_ret (v := .tuple #[.slice a2 zs.length c2, rv p q1, .int .i64 0]) (by simp [results, Tryz.results9, go_sem, mz0, mz1]) rfl ⟨_, zs, rfl, HD2.out.2, (((HDW.out.set hlw1).set hlw1).mono hbw1.size).keep (Below.refl _ _).drew, hzl, (bs (bs hbW (by dsimp only; omega) _) (by dsimp only; omega) _).drew⟩
      · have h5 : (e4 == 0) = false := by simpa using h4
        have h6 : (e4 != 0) = true := by simpa using h4
        rw [if_pos h4] at hA
        simp only [Prod.mk.injEq] at hA
        obtain ⟨rfl, rfl, rfl, rfl⟩ := hA
        have HN5 : Hid (Nb (w4.alloc (.cells #[.int .i64 p, .int .i64 q1] 23)) w.heap.size u d (.slice la l.length lc) (.slice ra ts.length rc) (.int .i64 kk) (.string kc) (.int .i64 kl) (.int .i64 kh) (.slice ka kn kd) (.slice kb km kp)) := HN4.out.at (ba _ _)
        have mr0 := HN5.out.r0.c
        have mr1 := HN5.out.r1.c
        have mt0 := HN5.out.t0.c
        have mt1 := HN5.out.t1.c
        have ma0 := HN5.out.a0.c
        have ma1 := HN5.out.a1.c
        have ma2 := HN5.out.a2.c
        have ma3 := HN5.out.a3.c
        have ma4 := HN5.out.a4.c
        have ma5 := HN5.out.a5.c
        have mz0 := HN5.out.z0.c
        have mz1 := HN5.out.z1.c
        have mf0 := HN5.out.z0.f
        have mf1 := HN5.out.z1.f
        go_wp2_with fail
        exact bodyPost_ret (v := .tuple #[.slice none 0 0, rv 0 0, .int .i64 e4]) (by simp [results, Tryz.results9, go_sem, mz0, mz1]) rfl ⟨_, [], rfl, rfl, DssA.nil _ _, by simp, bs (bs (bal hbw4 _) (by dsimp only; omega) _) (by dsimp only; omega) _⟩
    · have h5 : (e2 == 0) = false := by simpa using h2
      have h6 : (e2 != 0) = true := by simpa using h2
      rw [if_pos h2] at hA
      simp only [Prod.mk.injEq] at hA
      obtain ⟨rfl, rfl, rfl, rfl⟩ := hA
      have mr0 := HN2.out.r0.c
      have mr1 := HN2.out.r1.c
      have mt0 := HN2.out.t0.c
      have mt1 := HN2.out.t1.c
      have ma0 := HN2.out.a0.c
      have ma1 := HN2.out.a1.c
      have ma2 := HN2.out.a2.c
      have ma3 := HN2.out.a3.c
      have ma4 := HN2.out.a4.c
      have ma5 := HN2.out.a5.c
      have mz0 := HN2.out.z0.c
      have mz1 := HN2.out.z1.c
      have mf0 := HN2.out.z0.f
      have mf1 := HN2.out.z1.f
      go_wp2_with fail
      exact bodyPost_ret (v := .tuple #[.slice none 0 0, rv 0 0, .int .i64 e2]) (by simp [results, Tryz.results9, go_sem, mz0, mz1]) rfl ⟨_, [], rfl, rfl, DssA.nil _ _, by simp, bs (bs hbw2 (by dsimp only; omega) _) (by dsimp only; omega) _⟩
  · have hA := HA.out
    have h5 : (e1 == 0) = false := by simpa using h1
    have h6 : (e1 != 0) = true := by simpa using h1
    rw [if_pos h1] at hA
    simp only [Prod.mk.injEq] at hA
    obtain ⟨rfl, rfl, rfl, rfl⟩ := hA
    have mr0 := HN.out.r0.c
    have mr1 := HN.out.r1.c
    have mt0 := HN.out.t0.c
    have mt1 := HN.out.t1.c
    have ma0 := HN.out.a0.c
    have ma1 := HN.out.a1.c
    have ma2 := HN.out.a2.c
    have ma3 := HN.out.a3.c
    have ma4 := HN.out.a4.c
    have ma5 := HN.out.a5.c
    have mz0 := HN.out.z0.c
    have mz1 := HN.out.z1.c
    have mf0 := HN.out.z0.f
    have mf1 := HN.out.z1.f
    go_wp2_with fail
    exact bodyPost_ret (v := .tuple #[.slice none 0 0, rv 0 0, .int .i64 e1]) (by simp [results, Tryz.results9, go_sem, mz0, mz1]) rfl ⟨_, [], rfl, rfl, DssA.nil _ _, by simp, bs (bs hbw1 (by dsimp only; omega) _) (by dsimp only; omega) _⟩
end Go.Proofs.YtlndlpjadajelaaGreat

namespace Go.Proofs.YtlndlpjadajelaaGreat
open Go.RowKit Go.Proofs.YtlndlpjadajelaaGreat.Ds

/-- a loss, a table and a question in boxes -/
structure Nc (W : World) (N : Nat) (u d : Int) (cv tv v0 v1 v2 v3 v4 v5 : Value) : Prop where
  r0 : K.Cl W N 0 (.int .i64 u)
  r1 : K.Cl W N 1 (.int .i64 d)
  t0 : K.Cl W (N + 1) 0 cv
  t1 : K.Cl W (N + 1) 1 tv
  a0 : K.Cl W (N + 1 + 1) 0 v0
  a1 : K.Cl W (N + 1 + 1) 1 v1
  a2 : K.Cl W (N + 1 + 1) 2 v2
  a3 : K.Cl W (N + 1 + 1) 3 v3
  a4 : K.Cl W (N + 1 + 1) 4 v4
  a5 : K.Cl W (N + 1 + 1) 5 v5
theorem Nc.at {W W' : World} {N : Nat} {u d : Int} {cv tv v0 v1 v2 v3 v4 v5 : Value} (h : Nc W N u d cv tv v0 v1 v2 v3 v4 v5) (hb : Below W.heap.size W W') : Nc W' N u d cv tv v0 v1 v2 v3 v4 v5 :=
  ⟨h.r0.at hb, h.r1.at hb, h.t0.at hb, h.t1.at hb, h.a0.at hb, h.a1.at hb, h.a2.at hb, h.a3.at hb, h.a4.at hb, h.a5.at hb⟩
theorem Nc.new (w : World) (u d : Int) (cv tv v0 v1 v2 v3 v4 v5 : Value) : Nc (((w.alloc (.cells #[.int .i64 u, .int .i64 d] 23)).alloc (.cells #[cv, tv] 27)).alloc (.cells #[v0, v1, v2, v3, v4, v5] 31)) w.heap.size u d cv tv v0 v1 v2 v3 v4 v5 := by
  constructor
  all_goals first
    | exact ((K.Cl.new _ 23 _ _ rfl rfl).at (ba _ _)).at (ba _ _)
    | exact (K.Cl.new _ 27 _ _ (by simp) rfl).at (ba _ _)
    | exact K.Cl.new _ 31 _ _ (by simp) rfl

set_option maxHeartbeats 4000000 in
set_option maxRecDepth 100000 in
theorem noiseAnswers_walk (B : Nat) (u d lo hi : Int) (cv tv v0 v1 v2 v3 v4 v5 : Value) (l : List K.Ds.Col) (ts : List K.Rw) (q : K.Ds.Qu) (w : World) (hB : B ≤ w.heap.size) (hp : K.Cols w B cv l) (hr : K.Rws w B tv ts) (hq : K.Qm w B q v0 v1 v2 v3 v4 v5) (hlo : I64 lo) (hhi : I64 hi) :
    Calls Tryz.prog 3 #[rv u d, .int .i64 lo, .int .i64 hi, .agg #[cv, tv], .agg #[v0, v1, v2, v3, v4, v5]] w fun e w' => e = .returned (.bool true) ∧ Below w.heap.size w w' := by
  have HP : Hid (K.Cols w B cv l) := hp
  have HRW : Hid (K.Rws w B tv ts) := hr
  have HQ : Hid (K.Qm w B q v0 v1 v2 v3 v4 v5) := hq
  have HI : Hid (I64 lo ∧ I64 hi) := ⟨hlo, hhi⟩
  obtain ⟨⟨ls, p, q1, er⟩, hA⟩ : ∃ y, ansT u d lo hi l (K.rr ts) q = y := ⟨_, rfl⟩
  have HA : Hid (ansT u d lo hi l (K.rr ts) q = (ls, p, q1, er)) := hA
  obtain ⟨la, lc, rfl, _⟩ := hp.slice
  obtain ⟨ra, rc, rfl, _⟩ := hr.slice
  obtain ⟨kk, kc, kl, kh, ka, kn, kd, kb, km, kp, rfl, rfl, rfl, rfl, rfl, rfl⟩ := hq.shape
  have hb0 : Below w.heap.size w (((w.alloc (.cells #[.int .i64 u, .int .i64 d] 23)).alloc (.cells #[.slice la l.length lc, .slice ra ts.length rc] 27)).alloc (.cells #[.int .i64 kk, .string kc, .int .i64 kl, .int .i64 kh, .slice ka kn kd, .slice kb km kp] 31)) := bal (bal (ba _ _) _) _
  have HN0 : Hid (Nc (((w.alloc (.cells #[.int .i64 u, .int .i64 d] 23)).alloc (.cells #[.slice la l.length lc, .slice ra ts.length rc] 27)).alloc (.cells #[.int .i64 kk, .string kc, .int .i64 kl, .int .i64 kh, .slice ka kn kd, .slice kb km kp] 31)) w.heap.size u d (.slice la l.length lc) (.slice ra ts.length rc) (.int .i64 kk) (.string kc) (.int .i64 kl) (.int .i64 kh) (.slice ka kn kd) (.slice kb km kp)) := Nc.new _ _ _ _ _ _ _ _ _ _ _
  clear hp hr hq hlo hhi hA
  obtain ⟨w0, hw0⟩ : ∃ w0, (((w.alloc (.cells #[.int .i64 u, .int .i64 d] 23)).alloc (.cells #[.slice la l.length lc, .slice ra ts.length rc] 27)).alloc (.cells #[.int .i64 kk, .string kc, .int .i64 kl, .int .i64 kh, .slice ka kn kd, .slice kb km kp] 31)) = w0 := ⟨_, rfl⟩
  rw [hw0] at hb0 HN0
  have kr := nanswer_any B u d lo hi _ _ _ _ _ _ _ _ l ts q w0 (Nat.le_trans hB hb0.size) (HP.out.at hB hb0) (HRW.out.at hB hb0) (HQ.out.at hB hb0) HI.out.1 HI.out.2 ls p q1 er HA.out
  have m0 := HN0.out.r0.c
  have m1 := HN0.out.r1.c
  have m2 := HN0.out.t0.c
  have m3 := HN0.out.t1.c
  have m4 := HN0.out.a0.c
  have m5 := HN0.out.a1.c
  have m6 := HN0.out.a2.c
  have m7 := HN0.out.a3.c
  have m8 := HN0.out.a4.c
  have m9 := HN0.out.a5.c
  go_enter Tryz.func3, Tryz.ntmps3
  go_wp2_with fail
  clear hw0 m0 m1 m2 m3 m4 m5 m6 m7 m8 m9
  refine kr.mono ?_
  rintro e w1 ⟨v', zs, rfl, k1, k2, k3, k4⟩
  have hbw1 := bt hb0 k4
  have h1pos : 0 < w0.heap.size := Nat.lt_of_le_of_lt (Nat.zero_le _) HN0.out.r0.lt
  have HD1 : Hid (Dss w1 w1.heap.size v' zs ∧ rds zs = ls) := ⟨k2.dss h1pos, k1⟩
  obtain ⟨a2, c2, hv2, _⟩ := k2
  subst hv2
  have hzl : zs.length ≤ 1048576 := by omega
  have hbc := bal hbw1 (.cells #[.int .i64 p, .int .i64 q1] 23)
  have HN1 : Hid (Nc (w1.alloc (.cells #[.int .i64 p, .int .i64 q1] 23)) w.heap.size u d (.slice la l.length lc) (.slice ra ts.length rc) (.int .i64 kk) (.string kc) (.int .i64 kl) (.int .i64 kh) (.slice ka kn kd) (.slice kb km kp)) := (HN0.out.at k4).at (ba _ _)
  have HC1 : Hid (Fc w1.heap.size p q1 (w1.alloc (.cells #[.int .i64 p, .int .i64 q1] 23))) := fc_new _ _ _
  have HD2 : Hid (Dss (w1.alloc (.cells #[.int .i64 p, .int .i64 q1] 23)) (w1.alloc (.cells #[.int .i64 p, .int .i64 q1] 23)).heap.size (.slice a2 zs.length c2) zs) := HD1.out.1.at3 (ba _ _)
  have kr2 := ranswerN_any B u d lo hi _ _ _ _ _ _ _ _ l ts q _ (Nat.le_trans hB hbc.size) (HP.out.at hB hbc) (HRW.out.at hB hbc) (HQ.out.at hB hbc) HI.out.1 HI.out.2 ls p q1 er HA.out
  clear k1 k3 k4 kr HN0 hb0 h1pos
  have m0 := HN1.out.r0.c
  have m1 := HN1.out.r1.c
  have m2 := HN1.out.t0.c
  have m3 := HN1.out.t1.c
  have m4 := HN1.out.a0.c
  have m5 := HN1.out.a1.c
  have m6 := HN1.out.a2.c
  have m7 := HN1.out.a3.c
  have m8 := HN1.out.a4.c
  have m9 := HN1.out.a5.c
  go_wp2_with fail
  clear m0 m1 m2 m3 m4 m5 m6 m7 m8 m9
  refine kr2.mono ?_
  rintro e w2 ⟨v', ys, rfl, k1, k2, k3, k4⟩
  have h1pos : 0 < (w1.alloc (.cells #[.int .i64 p, .int .i64 q1] 23)).heap.size := Nat.lt_of_le_of_lt (Nat.zero_le _) HN1.out.r0.lt
  have HD3 : Hid (Dss w2 w2.heap.size v' ys ∧ rds ys = ls) := ⟨k2.dss h1pos, k1⟩
  have HD4 : Hid (Dss w2 w2.heap.size (.slice a2 zs.length c2) zs) := HD2.out.at3 k4
  obtain ⟨a3, c3, hv3, _⟩ := k2
  subst hv3
  have hyl : ys.length ≤ 1048576 := by omega
  have hbw2 := bt hbc k4
  have hs1 : w1.heap.size < (w1.alloc (.cells #[.int .i64 p, .int .i64 q1] 23)).heap.size := by simp
  have HC2 : Hid (Fc w1.heap.size p q1 w2) := HC1.out.at k4 hs1
  have hs2 : w1.heap.size < w2.heap.size := Nat.lt_of_lt_of_le hs1 k4.size
  have HC3 : Hid (Fc w1.heap.size p q1 (w2.alloc (.cells #[.int .i64 p, .int .i64 q1] 23))) := HC2.out.at (ba _ _) hs2
  have HC4 : Hid (Fc w2.heap.size p q1 (w2.alloc (.cells #[.int .i64 p, .int .i64 q1] 23))) := fc_new _ _ _
  obtain ⟨W, hW⟩ : ∃ W, w2.alloc (.cells #[.int .i64 p, .int .i64 q1] 23) = W := ⟨_, rfl⟩
  have hbW : Below w.heap.size w W := hW ▸ bal hbw2 _
  have HD5 : Hid (Dss W W.heap.size (.slice a2 zs.length c2) zs) := hW ▸ HD4.out.at3 (ba _ _)
  have HD6 : Hid (Dss W W.heap.size (.slice a3 ys.length c3) ys) := hW ▸ HD3.out.1.at3 (ba _ _)
  have hlW1 : w1.heap.size < W.heap.size := by rw [← hW]; simp; omega
  have hlW2 : w2.heap.size < W.heap.size := by rw [← hW]; simp
  rw [hW] at HC3 HC4
  have kC := sameDists_any W.heap.size _ _ zs ys W (Nat.le_refl _) HD5.out HD6.out hzl hyl (HD1.out.2.trans HD3.out.2.symm)
  obtain ⟨j1, j2, j3, j4⟩ := HC3.out
  obtain ⟨i1, i2, i3, i4⟩ := HC4.out
  have ze : (er == er) = true := by simp
  clear k1 k3 k4 kr2 HN1 hs1 hs2 HC2 HC1
  go_wp2_with fail
  clear hW
  refine kC.mono ?_
  rintro e w3 ⟨rfl, hb3⟩
  have hbw3 := bt hbW hb3
  have x1 : w3.cell? ⟨w1.heap.size, 0, none⟩ = some (.int .i64 p) := ((bcell hb3).1 _ _ hlW1).trans j1
  have x2 : w3.cell? ⟨w1.heap.size, 1, none⟩ = some (.int .i64 q1) := ((bcell hb3).1 _ _ hlW1).trans j2
  have x3 : w3.cell? ⟨w2.heap.size, 0, none⟩ = some (.int .i64 p) := ((bcell hb3).1 _ _ hlW2).trans i1
  have x4 : w3.cell? ⟨w2.heap.size, 1, none⟩ = some (.int .i64 q1) := ((bcell hb3).1 _ _ hlW2).trans i2
  clear kC j1 j2 j3 j4 i1 i2 i3 i4 hb3
  go_wp2
  go_ret
  exact ⟨rfl, hbw3⟩
end Go.Proofs.YtlndlpjadajelaaGreat
