import Derived.Test.YtlndlpjadajelaaGreatQa22
import Derived.Test.YtlndlpjadajelaaGreatQa50
namespace Go.Proofs.YtlndlpjadajelaaGreat
open Go.RowKit Go.Proofs.YtlndlpjadajelaaGreat.Ds

/-! ### Answer -/
def ansT (u d lo hi : Int) (l : List K.Ds.Col) (rs : List (List Int)) (q : K.Ds.Qu) : List (List Pt) × Int × Int × Int :=
  if (K.runV (K.runT l rs q)).2 ≠ 0 then ([], 0, 0, (K.runV (K.runT l rs q)).2)
  else if (hidsT u d lo hi (K.runV (K.runT l rs q)).1).2 ≠ 0 then ([], 0, 0, (hidsT u d lo hi (K.runV (K.runT l rs q)).1).2)
  else if (lostT u d (K.typV (K.typ l q)).1.2.1).2.2 ≠ 0 then ([], 0, 0, (lostT u d (K.typV (K.typ l q)).1.2.1).2.2)
  else ((hidsT u d lo hi (K.runV (K.runT l rs q)).1).1, (lostT u d (K.typV (K.typ l q)).1.2.1).1, (lostT u d (K.typV (K.typ l q)).1.2.1).2.1, 0)
def AnsQ (w : World) (ls : List (List Pt)) (p q er : Int) (e : Ending) (w' : World) : Prop :=
  ∃ v zs, e = .returned (.tuple #[v, rv p q, .int .i64 er]) ∧ rds zs = ls ∧ DssA w' w.heap.size v zs ∧ zs.length ≤ 4096 ∧ Below w.heap.size w w'

theorem ints_K {w : World} {B nb : Nat} {v : Value} {xs : List Int} (h : K.Ints w B nb v xs) (hl : xs.length ≤ 1073741824) : Ints w B nb v xs := by
  obtain ⟨a, c, hv, hc, _, hx⟩ := h
  exact ⟨a, c, hv, hc, hl, hx⟩
theorem run_bd {w : World} {B : Nat} {l : List K.Ds.Col} {rs : List (List Int)} {q : K.Ds.Qu} {v0 v1 v2 v3 v4 v5 : Value} (hq : K.Qm w B q v0 v1 v2 v3 v4 v5) {xs : List Int} {e : Int} (h : K.runV (K.runT l rs q) = (xs, e)) : xs.length ≤ 4096 ∧ ∀ n ∈ xs, I64 n := by
  unfold K.runT at h
  split at h
  · rename_i h0
    obtain ⟨hce, hle, _⟩ := K.Ds.wroE_ok h0
    split at h
    · rename_i b hb
      simp only [K.runV, Prod.mk.injEq] at h
      obtain ⟨rfl, _⟩ := h
      have hs := (K.Ds.colE_ok hce).2.2.1
      obtain ⟨h1, h2⟩ := K.ans_ok hs hle q 1 _ hb hq.ne
      have h3 := K.Ds.bnd_bd hs q 1 _ hb
      unfold K.Ds.BOk at h3
      refine ⟨by omega, fun n hn => ?_⟩
      have := h2 n hn
      unfold I64
      omega
    · simp only [K.runV, Prod.mk.injEq] at h
      obtain ⟨rfl, _⟩ := h
      exact ⟨by simp, by simp⟩
  · simp only [K.runV, Prod.mk.injEq] at h
    obtain ⟨rfl, _⟩ := h
    exact ⟨by simp, by simp⟩
theorem hids_len {u d lo hi : Int} {ns : List Int} {l : List (List Pt)} {er : Int} (h : hidsT u d lo hi ns = (l, er)) : l.length ≤ ns.length := by
  have e : l = (hidsT u d lo hi ns).1 := by rw [h]
  rw [e]
  clear e h
  induction ns with
  | nil => simp [hidsT]
  | cons n ns ih =>
    unfold hidsT
    split
    · simp
    · split
      · simp
      · simp; exact ih
theorem Dss.at3 {w w' : World} {v : Value} {zs : List Dz} (h : Dss w w.heap.size v zs) (hb : Below w.heap.size w w') : Dss w' w'.heap.size v zs := by
  obtain ⟨a, c, hv, hc, hl, hi, hx⟩ := h.keep hb
  exact ⟨a, c, hv, hc, hl, fun t ht => (hi t ht).mono hb.size, fun hne => let ⟨b, o, ha, hb', hcell⟩ := hx hne; ⟨b, o, ha, Nat.lt_of_lt_of_le hb' hb.size, hcell⟩⟩

/-- a loss, a table, a question in boxes, and a loss to be told -/
structure Nb (W : World) (N : Nat) (u d : Int) (cv tv v0 v1 v2 v3 v4 v5 : Value) : Prop where
  r0 : K.Cl W N 0 (.int .i64 u)
  r1 : K.Cl W N 1 (.int .i64 d)
  t0 : K.Cl W (N + 1) 0 cv
  t1 : K.Cl W (N + 1) 1 tv
  a0 : K.Cl W (N + 1 + 1) 0 v0
  a1 : K.Cl W (N + 1 + 1) 1 v1
  a2 : K.Cl W (N + 1 + 1) 2 v2
  a3 : K.Cl W (N + 1 + 1) 3 v3
  a4 : K.Cl W (N + 1 + 1) 4 v4
  a5 : K.Cl W (N + 1 + 1) 5 v5
  z0 : K.Cl W (N + 1 + 1 + 1) 0 (.int .i64 0)
  z1 : K.Cl W (N + 1 + 1 + 1) 1 (.int .i64 0)
theorem Nb.at {W W' : World} {N : Nat} {u d : Int} {cv tv v0 v1 v2 v3 v4 v5 : Value} (h : Nb W N u d cv tv v0 v1 v2 v3 v4 v5) (hb : Below W.heap.size W W') : Nb W' N u d cv tv v0 v1 v2 v3 v4 v5 :=
  ⟨h.r0.at hb, h.r1.at hb, h.t0.at hb, h.t1.at hb, h.a0.at hb, h.a1.at hb, h.a2.at hb, h.a3.at hb, h.a4.at hb, h.a5.at hb, h.z0.at hb, h.z1.at hb⟩
theorem Nb.new (w : World) (u d : Int) (cv tv v0 v1 v2 v3 v4 v5 : Value) : Nb ((((w.alloc (.cells #[.int .i64 u, .int .i64 d] 23)).alloc (.cells #[cv, tv] 27)).alloc (.cells #[v0, v1, v2, v3, v4, v5] 31)).alloc (.cells #[.int .i64 0, .int .i64 0] 23)) w.heap.size u d cv tv v0 v1 v2 v3 v4 v5 := by
  constructor
  all_goals first
    | exact (((K.Cl.new _ 23 _ _ rfl rfl).at (ba _ _)).at (ba _ _)).at (ba _ _)
    | exact ((K.Cl.new _ 27 _ _ (by simp) rfl).at (ba _ _)).at (ba _ _)
    | exact (K.Cl.new _ 31 _ _ (by simp) rfl).at (ba _ _)
    | exact K.Cl.new _ 23 _ _ (by simp) rfl

theorem hidesA (u d lo hi : Int) (xa : Option Addr) (xc : Nat) (xs : List Int) (w1 : World) (HXI : Hid (Ints w1 w1.heap.size w1.heap.size (.slice xa xs.length xc) xs)) (h1 : I64 lo) (h2 : I64 hi) (h3 : ∀ n ∈ xs, I64 n) (h4 : xs.length ≤ 4096) (hl : List (List Pt)) (e2 : Int) (HHS : Hid (hidsT u d lo hi xs = (hl, e2))) :
    Calls Tryz.prog 28 #[rv u d, .int .i64 lo, .int .i64 hi, .slice xa xs.length xc] w1 (HidsP w1 hl e2) := hideAll_any _ _ u d lo hi _ xs w1 (Nat.le_refl _) HXI.out h1 h2 h3 (by omega) hl e2 HHS.out
theorem hidesB (u d lo hi : Int) (xa : Option Addr) (xc : Nat) (xs : List Int) (w1 : World) (HXI : Hid (Ints w1 w1.heap.size w1.heap.size (.slice xa xs.length xc) xs)) (_h1 : I64 lo) (_h2 : I64 hi) (_h3 : ∀ n ∈ xs, I64 n) (h4 : xs.length ≤ 4096) (hl : List (List Pt)) (e2 : Int) (HHS : Hid (hidsT u d lo hi xs = (hl, e2))) :
    Calls Tryz.prog 31 #[rv u d, .int .i64 lo, .int .i64 hi, .slice xa xs.length xc] w1 (HidsR w1 hl e2) := rhideAll_any _ _ u d lo hi _ xs w1 (Nat.le_refl _) HXI.out (by omega) hl e2 HHS.out

set_option maxHeartbeats 4000000 in
set_option maxRecDepth 100000 in
theorem nanswer_any (B : Nat) (u d lo hi : Int) (cv tv v0 v1 v2 v3 v4 v5 : Value) (l : List K.Ds.Col) (ts : List K.Rw) (q : K.Ds.Qu) (w : World) (hB : B ≤ w.heap.size) (hp : K.Cols w B cv l) (hr : K.Rws w B tv ts) (hq : K.Qm w B q v0 v1 v2 v3 v4 v5) (hlo : I64 lo) (hhi : I64 hi)
    (ls : List (List Pt)) (p' q' er : Int) (hA : ansT u d lo hi l (K.rr ts) q = (ls, p', q', er)) :
    Calls Tryz.prog 8 #[rv u d, .int .i64 lo, .int .i64 hi, .agg #[cv, tv], .agg #[v0, v1, v2, v3, v4, v5]] w (AnsQ w ls p' q' er) := by
  have HP : Hid (K.Cols w B cv l) := hp
  have HRW : Hid (K.Rws w B tv ts) := hr
  have HQ : Hid (K.Qm w B q v0 v1 v2 v3 v4 v5) := hq
  have HI : Hid (I64 lo ∧ I64 hi) := ⟨hlo, hhi⟩
  obtain ⟨⟨xs, e1⟩, hx⟩ : ∃ y, K.runV (K.runT l (K.rr ts) q) = y := ⟨_, rfl⟩
  have hbd := run_bd hq hx
  obtain ⟨⟨hl, e2⟩, hh⟩ : ∃ y, hidsT u d lo hi xs = y := ⟨_, rfl⟩
  obtain ⟨⟨⟨b1, b2, b3⟩, e3⟩, ht⟩ : ∃ y, K.typV (K.typ l q) = y := ⟨_, rfl⟩
  obtain ⟨⟨p, q1, e4⟩, hlo'⟩ : ∃ y, lostT u d b2 = y := ⟨_, rfl⟩
  unfold ansT at hA
  rw [hx, hh, ht] at hA
  simp only at hA
  rw [hlo'] at hA
  simp only at hA
  obtain ⟨la, lc, rfl, _⟩ := hp.slice
  obtain ⟨ra, rc, rfl, _⟩ := hr.slice
  obtain ⟨kk, kc, kl, kh, ka, kn, kd, kb, km, kp, rfl, rfl, rfl, rfl, rfl, rfl⟩ := hq.shape
  have hb0 : Below w.heap.size w ((((w.alloc (.cells #[.int .i64 u, .int .i64 d] 23)).alloc (.cells #[.slice la l.length lc, .slice ra ts.length rc] 27)).alloc (.cells #[.int .i64 kk, .string kc, .int .i64 kl, .int .i64 kh, .slice ka kn kd, .slice kb km kp] 31)).alloc (.cells #[.int .i64 0, .int .i64 0] 23)) := bal (bal (bal (ba _ _) _) _) _
  have HN0 : Hid (Nb ((((w.alloc (.cells #[.int .i64 u, .int .i64 d] 23)).alloc (.cells #[.slice la l.length lc, .slice ra ts.length rc] 27)).alloc (.cells #[.int .i64 kk, .string kc, .int .i64 kl, .int .i64 kh, .slice ka kn kd, .slice kb km kp] 31)).alloc (.cells #[.int .i64 0, .int .i64 0] 23)) w.heap.size u d (.slice la l.length lc) (.slice ra ts.length rc) (.int .i64 kk) (.string kc) (.int .i64 kl) (.int .i64 kh) (.slice ka kn kd) (.slice kb km kp)) := Nb.new _ _ _ _ _ _ _ _ _ _ _
  have HXS : Hid (K.runV (K.runT l (K.rr ts) q) = (xs, e1) ∧ xs.length ≤ 4096 ∧ (∀ n ∈ xs, I64 n)) := ⟨hx, hbd.1, hbd.2⟩
  have HHS : Hid (hidsT u d lo hi xs = (hl, e2)) := hh
  have HTY : Hid (K.typV (K.typ l q) = ((b1, b2, b3), e3)) := ht
  have HLO : Hid (lostT u d b2 = (p, q1, e4)) := hlo'
  have HA : Hid ((if e1 ≠ 0 then (([], 0, 0, e1) : List (List Pt) × Int × Int × Int) else if e2 ≠ 0 then ([], 0, 0, e2) else if e4 ≠ 0 then ([], 0, 0, e4) else (hl, p, q1, 0)) = (ls, p', q', er)) := hA
  have hxl : xs.length ≤ 4096 := hbd.1
  clear hx hh ht hlo' hA hp hr hq hbd hlo hhi
  obtain ⟨w0, hw0⟩ : ∃ w0, ((((w.alloc (.cells #[.int .i64 u, .int .i64 d] 23)).alloc (.cells #[.slice la l.length lc, .slice ra ts.length rc] 27)).alloc (.cells #[.int .i64 kk, .string kc, .int .i64 kl, .int .i64 kh, .slice ka kn kd, .slice kb km kp] 31)).alloc (.cells #[.int .i64 0, .int .i64 0] 23)) = w0 := ⟨_, rfl⟩
  rw [hw0] at hb0 HN0
  have kr := K.askRun_any l ts q w0 B _ _ _ _ _ _ _ _ xs e1 (Nat.le_trans hB hb0.size) (HP.out.at hB hb0) (HRW.out.at hB hb0) (HQ.out.at hB hb0) HXS.out.1
  have mr0 := HN0.out.r0.c
  have mr1 := HN0.out.r1.c
  have mt0 := HN0.out.t0.c
  have mt1 := HN0.out.t1.c
  have ma0 := HN0.out.a0.c
  have ma1 := HN0.out.a1.c
  have ma2 := HN0.out.a2.c
  have ma3 := HN0.out.a3.c
  have ma4 := HN0.out.a4.c
  have ma5 := HN0.out.a5.c
  have mz0 := HN0.out.z0.c
  have mz1 := HN0.out.z1.c
  have mf0 := HN0.out.z0.f
  have mf1 := HN0.out.z1.f
  go_enter Tryz.func8, Tryz.ntmps8
  go_wp2_with fail
  clear hw0 mr0 mr1 mt0 mt1 ma0 ma1 ma2 ma3 ma4 ma5 mz0 mz1 mf0 mf1
  refine kr.mono ?_
  rintro e w1 ⟨xa, xc, rfl, hI1, hb1⟩
  have hbw1 := bt hb0 hb1
  have HN : Hid (Nb w1 w.heap.size u d (.slice la l.length lc) (.slice ra ts.length rc) (.int .i64 kk) (.string kc) (.int .i64 kl) (.int .i64 kh) (.slice ka kn kd) (.slice kb km kp)) := HN0.out.at hb1
  have hlw1 : w.heap.size + 1 + 1 + 1 < w1.heap.size := HN.out.z0.lt
  have HXI : Hid (Ints w1 w1.heap.size w1.heap.size (.slice xa xs.length xc) xs) := ints_K hI1 (by omega)
  clear kr hI1 hb1 HN0 hb0
  by_cases h1 : e1 = 0
  · subst h1
    have hA := HA.out
    rw [if_neg (by simp)] at hA
    have mr0 := HN.out.r0.c
    have mr1 := HN.out.r1.c
    have mt0 := HN.out.t0.c
    have mt1 := HN.out.t1.c
    have ma0 := HN.out.a0.c
    have ma1 := HN.out.a1.c
    have ma2 := HN.out.a2.c
    have ma3 := HN.out.a3.c
    have ma4 := HN.out.a4.c
    have ma5 := HN.out.a5.c
    have mz0 := HN.out.z0.c
    have mz1 := HN.out.z1.c
    have mf0 := HN.out.z0.f
    have mf1 := HN.out.z1.f
    have khd := hidesA u d lo hi xa xc xs w1 HXI HI.out.1 HI.out.2 HXS.out.2.2 hxl hl e2 HHS
    go_wp2_with fail
    refine khd.mono ?_
    rintro e w2 ⟨v2, zs, rfl, k1, k2, k3⟩
    have HD2 : Hid (DssA w2 w1.heap.size v2 zs ∧ rds zs = hl) := ⟨k2.dssA, k1⟩
    obtain ⟨a2, c2, hv2, _⟩ := k2.dssA
    subst hv2
    have hbw2 := bt hbw1 k3
    have HN2 : Hid (Nb w2 w.heap.size u d (.slice la l.length lc) (.slice ra ts.length rc) (.int .i64 kk) (.string kc) (.int .i64 kl) (.int .i64 kh) (.slice ka kn kd) (.slice kb km kp)) := HN.out.at k3
    have hzl : zs.length ≤ 4096 := by
      have e1 := congrArg List.length HD2.out.2
      rw [rds_len] at e1
      have := hids_len HHS.out
      omega
    clear khd k1 k2 k3 mr0 mr1 mt0 mt1 ma0 ma1 ma2 ma3 ma4 ma5 mz0 mz1 mf0 mf1 HN
    by_cases h2 : e2 = 0
    · subst h2
      rw [if_neg (by simp)] at hA
      have mr0 := HN2.out.r0.c
      have mr1 := HN2.out.r1.c
      have mt0 := HN2.out.t0.c
      have mt1 := HN2.out.t1.c
      have ma0 := HN2.out.a0.c
      have ma1 := HN2.out.a1.c
      have ma2 := HN2.out.a2.c
      have ma3 := HN2.out.a3.c
      have ma4 := HN2.out.a4.c
      have ma5 := HN2.out.a5.c
      have mz0 := HN2.out.z0.c
      have mz1 := HN2.out.z1.c
      have mf0 := HN2.out.z0.f
      have mf1 := HN2.out.z1.f
      have kt := K.type_any l q w2 B _ _ _ _ _ _ _ b1 b2 b3 e3 (Nat.le_trans hB hbw2.size) (HP.out.at hB hbw2) (HQ.out.at hB hbw2) HTY.out
      go_wp2_with fail
      refine kt.mono ?_
      rintro e w3 ⟨rfl, hb3⟩
      have hbw3 := bt hbw2 hb3
      have HN3 : Hid (Nb (w3.alloc (.cells #[.int .i64 b1, .int .i64 b2, .int .i64 b3] 61)) w.heap.size u d (.slice la l.length lc) (.slice ra ts.length rc) (.int .i64 kk) (.string kc) (.int .i64 kl) (.int .i64 kh) (.slice ka kn kd) (.slice kb km kp)) := (HN2.out.at hb3).at (ba _ _)
      have HD3 : Hid (DssA (w3.alloc (.cells #[.int .i64 b1, .int .i64 b2, .int .i64 b3] 61)) w1.heap.size (.slice a2 zs.length c2) zs) := HD2.out.1.keep (bal hb3 _)
      have hbw3' := bal hbw3 (.cells #[.int .i64 b1, .int .i64 b2, .int .i64 b3] 61)
      clear kt hb3 mr0 mr1 mt0 mt1 ma0 ma1 ma2 ma3 ma4 ma5 mz0 mz1 mf0 mf1 HN2
      have mr0 := HN3.out.r0.c
      have mr1 := HN3.out.r1.c
      have mt0 := HN3.out.t0.c
      have mt1 := HN3.out.t1.c
      have ma0 := HN3.out.a0.c
      have ma1 := HN3.out.a1.c
      have ma2 := HN3.out.a2.c
      have ma3 := HN3.out.a3.c
      have ma4 := HN3.out.a4.c
      have ma5 := HN3.out.a5.c
      have mz0 := HN3.out.z0.c
      have mz1 := HN3.out.z1.c
      have mf0 := HN3.out.z0.f
      have mf1 := HN3.out.z1.f
      go_wp2_with fail
      refine (lost_any u d b2 p q1 e4 HLO.out _).mono ?_
      rintro e w4 ⟨rfl, hb4⟩
      have hbw4 := bt hbw3' hb4
      have HN4 : Hid (Nb w4 w.heap.size u d (.slice la l.length lc) (.slice ra ts.length rc) (.int .i64 kk) (.string kc) (.int .i64 kl) (.int .i64 kh) (.slice ka kn kd) (.slice kb km kp)) := HN3.out.at hb4
      have HD4 : Hid (DssA w4 w1.heap.size (.slice a2 zs.length c2) zs) := HD3.out.keep hb4
      clear hb4 mr0 mr1 mt0 mt1 ma0 ma1 ma2 ma3 ma4 ma5 mz0 mz1 mf0 mf1 HN3 HD3
      by_cases h4 : e4 = 0
      · subst h4
        rw [if_neg (by simp)] at hA
        simp only [Prod.mk.injEq] at hA
        obtain ⟨rfl, rfl, rfl, rfl⟩ := hA
        have HN5 : Hid (Nb (w4.alloc (.cells #[.int .i64 p, .int .i64 q1] 23)) w.heap.size u d (.slice la l.length lc) (.slice ra ts.length rc) (.int .i64 kk) (.string kc) (.int .i64 kl) (.int .i64 kh) (.slice ka kn kd) (.slice kb km kp)) := HN4.out.at (ba _ _)
        have HC5 : Hid (Fc w4.heap.size p q1 (w4.alloc (.cells #[.int .i64 p, .int .i64 q1] 23))) := fc_new _ _ _
        obtain ⟨j1, j2, j3, j4⟩ := HC5.out
        obtain ⟨W, hW⟩ : ∃ W, w4.alloc (.cells #[.int .i64 p, .int .i64 q1] 23) = W := ⟨_, rfl⟩
        have hbW : Below w.heap.size w W := hW ▸ bal hbw4 _
        have HDW : Hid (DssA W w1.heap.size (.slice a2 zs.length c2) zs) := hW ▸ HD4.out.keep (ba _ _)
        have hlW : w.heap.size + 1 + 1 + 1 < W.heap.size := hW ▸ HN5.out.z0.lt
        rw [hW] at HN5 j1 j2 j3 j4
        have mr0 := HN5.out.r0.c
        have mr1 := HN5.out.r1.c
        have mt0 := HN5.out.t0.c
        have mt1 := HN5.out.t1.c
        have ma0 := HN5.out.a0.c
        have ma1 := HN5.out.a1.c
        have ma2 := HN5.out.a2.c
        have ma3 := HN5.out.a3.c
        have ma4 := HN5.out.a4.c
        have ma5 := HN5.out.a5.c
        have mz0 := HN5.out.z0.c
        have mz1 := HN5.out.z1.c
        have mf0 := HN5.out.z0.f
        have mf1 := HN5.out.z1.f
        go_wp2_with fail
        clear hW
        go_region_law (fail)
        go_wp2
        exact bodyPost_ret (v := .tuple #[.slice a2 zs.length c2, rv p q1, .int .i64 0]) (by simp [results, Tryz.results8, go_sem, mz0, mz1]) rfl ⟨_, zs, rfl, HD2.out.2, (((HDW.out.set hlw1).set hlw1).mono hbw1.size).keep (Below.refl _ _).drew, hzl, (bs (bs hbW (by dsimp only; omega) _) (by dsimp only; omega) _).drew⟩
      · have h5 : (e4 == 0) = false := by simpa using h4
        have h6 : (e4 != 0) = true := by simpa using h4
        rw [if_pos h4] at hA
        simp only [Prod.mk.injEq] at hA
        obtain ⟨rfl, rfl, rfl, rfl⟩ := hA
        have HN5 : Hid (Nb (w4.alloc (.cells #[.int .i64 p, .int .i64 q1] 23)) w.heap.size u d (.slice la l.length lc) (.slice ra ts.length rc) (.int .i64 kk) (.string kc) (.int .i64 kl) (.int .i64 kh) (.slice ka kn kd) (.slice kb km kp)) := HN4.out.at (ba _ _)
        have mr0 := HN5.out.r0.c
        have mr1 := HN5.out.r1.c
        have mt0 := HN5.out.t0.c
        have mt1 := HN5.out.t1.c
        have ma0 := HN5.out.a0.c
        have ma1 := HN5.out.a1.c
        have ma2 := HN5.out.a2.c
        have ma3 := HN5.out.a3.c
        have ma4 := HN5.out.a4.c
        have ma5 := HN5.out.a5.c
        have mz0 := HN5.out.z0.c
        have mz1 := HN5.out.z1.c
        have mf0 := HN5.out.z0.f
        have mf1 := HN5.out.z1.f
        go_wp2_with fail
        exact bodyPost_ret (v := .tuple #[.slice none 0 0, rv 0 0, .int .i64 e4]) (by simp [results, Tryz.results8, go_sem, mz0, mz1]) rfl ⟨_, [], rfl, rfl, DssA.nil _ _, by simp, bs (bs (bal hbw4 _) (by dsimp only; omega) _) (by dsimp only; omega) _⟩
    · have h5 : (e2 == 0) = false := by simpa using h2
      have h6 : (e2 != 0) = true := by simpa using h2
      rw [if_pos h2] at hA
      simp only [Prod.mk.injEq] at hA
      obtain ⟨rfl, rfl, rfl, rfl⟩ := hA
      have mr0 := HN2.out.r0.c
      have mr1 := HN2.out.r1.c
      have mt0 := HN2.out.t0.c
      have mt1 := HN2.out.t1.c
      have ma0 := HN2.out.a0.c
      have ma1 := HN2.out.a1.c
      have ma2 := HN2.out.a2.c
      have ma3 := HN2.out.a3.c
      have ma4 := HN2.out.a4.c
      have ma5 := HN2.out.a5.c
      have mz0 := HN2.out.z0.c
      have mz1 := HN2.out.z1.c
      have mf0 := HN2.out.z0.f
      have mf1 := HN2.out.z1.f
      go_wp2_with fail
      exact bodyPost_ret (v := .tuple #[.slice none 0 0, rv 0 0, .int .i64 e2]) (by simp [results, Tryz.results8, go_sem, mz0, mz1]) rfl ⟨_, [], rfl, rfl, DssA.nil _ _, by simp, bs (bs hbw2 (by dsimp only; omega) _) (by dsimp only; omega) _⟩
  · have hA := HA.out
    have h5 : (e1 == 0) = false := by simpa using h1
    have h6 : (e1 != 0) = true := by simpa using h1
    rw [if_pos h1] at hA
    simp only [Prod.mk.injEq] at hA
    obtain ⟨rfl, rfl, rfl, rfl⟩ := hA
    have mr0 := HN.out.r0.c
    have mr1 := HN.out.r1.c
    have mt0 := HN.out.t0.c
    have mt1 := HN.out.t1.c
    have ma0 := HN.out.a0.c
    have ma1 := HN.out.a1.c
    have ma2 := HN.out.a2.c
    have ma3 := HN.out.a3.c
    have ma4 := HN.out.a4.c
    have ma5 := HN.out.a5.c
    have mz0 := HN.out.z0.c
    have mz1 := HN.out.z1.c
    have mf0 := HN.out.z0.f
    have mf1 := HN.out.z1.f
    go_wp2_with fail
    exact bodyPost_ret (v := .tuple #[.slice none 0 0, rv 0 0, .int .i64 e1]) (by simp [results, Tryz.results8, go_sem, mz0, mz1]) rfl ⟨_, [], rfl, rfl, DssA.nil _ _, by simp, bs (bs hbw1 (by dsimp only; omega) _) (by dsimp only; omega) _⟩
end Go.Proofs.YtlndlpjadajelaaGreat
