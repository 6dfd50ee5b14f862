import Derived.Test.YtcmhokfeadeffaaGreatQp46
import Derived.Test.YtcmhokfeadeffaaGreatQp33
namespace Go.Proofs.YtcmhokfeadeffaaGreat
open Go.RowKit Go.Proofs.YtcmhokfeadeffaaGreat.Ds
set_option maxHeartbeats 4000000 in
set_option maxRecDepth 100000 in
theorem ranswerN_any (B : Nat) (u d lo hi : Int) (cv tv v0 v1 v2 v3 v4 v5 : Value) (l : List K.Ds.Col) (ts : List K.Rw) (q : K.Ds.Qu) (w : World) (hB : B ≤ w.heap.size) (hp : K.Cols w B cv l) (hr : K.Rws w B tv ts) (hq : K.Qm w B q v0 v1 v2 v3 v4 v5) (hlo : I64 lo) (hhi : I64 hi)
    (ls : List (List Pt)) (p' q' er : Int) (hA : ansT u d lo hi l (K.rr ts) q = (ls, p', q', er)) :
    Calls Tryz.prog 6 #[rv u d, .int .i64 lo, .int .i64 hi, .agg #[cv, tv], .agg #[v0, v1, v2, v3, v4, v5]] w (AnsQ w ls p' q' er) := by
  have HP : Hid (K.Cols w B cv l) := hp
  have HRW : Hid (K.Rws w B tv ts) := hr
  have HQ : Hid (K.Qm w B q v0 v1 v2 v3 v4 v5) := hq
  have HI : Hid (I64 lo ∧ I64 hi) := ⟨hlo, hhi⟩
  obtain ⟨⟨xs, e1⟩, hx⟩ : ∃ y, K.runV (K.runT l (K.rr ts) q) = y := ⟨_, rfl⟩
  have hbd := run_bd hq hx
  obtain ⟨⟨hl, e2⟩, hh⟩ : ∃ y, hidsT u d lo hi xs = y := ⟨_, rfl⟩
  obtain ⟨⟨⟨b1, b2, b3⟩, e3⟩, ht⟩ : ∃ y, K.typV (K.typ l q) = y := ⟨_, rfl⟩
  obtain ⟨⟨p, q1, e4⟩, hlo'⟩ : ∃ y, lostT u d b2 = y := ⟨_, rfl⟩
  unfold ansT at hA
  rw [hx, hh, ht] at hA
  simp only at hA
  rw [hlo'] at hA
  simp only at hA
  obtain ⟨la, lc, rfl, _⟩ := hp.slice
  obtain ⟨ra, rc, rfl, _⟩ := hr.slice
  obtain ⟨kk, kc, kl, kh, ka, kn, kd, kb, km, kp, rfl, rfl, rfl, rfl, rfl, rfl⟩ := hq.shape
  have hb0 : Below w.heap.size w ((((w.alloc (.cells #[.int .i64 u, .int .i64 d] 23)).alloc (.cells #[.slice la l.length lc, .slice ra ts.length rc] 27)).alloc (.cells #[.int .i64 kk, .string kc, .int .i64 kl, .int .i64 kh, .slice ka kn kd, .slice kb km kp] 31)).alloc (.cells #[.int .i64 0, .int .i64 0] 23)) := bal (bal (bal (ba _ _) _) _) _
  have HN0 : Hid (Nb ((((w.alloc (.cells #[.int .i64 u, .int .i64 d] 23)).alloc (.cells #[.slice la l.length lc, .slice ra ts.length rc] 27)).alloc (.cells #[.int .i64 kk, .string kc, .int .i64 kl, .int .i64 kh, .slice ka kn kd, .slice kb km kp] 31)).alloc (.cells #[.int .i64 0, .int .i64 0] 23)) w.heap.size u d (.slice la l.length lc) (.slice ra ts.length rc) (.int .i64 kk) (.string kc) (.int .i64 kl) (.int .i64 kh) (.slice ka kn kd) (.slice kb km kp)) := Nb.new _ _ _ _ _ _ _ _ _ _ _
  have HXS : Hid (K.runV (K.runT l (K.rr ts) q) = (xs, e1) ∧ xs.length ≤ 4096 ∧ (∀ n ∈ xs, I64 n)) := ⟨hx, hbd.1, hbd.2⟩
  have HHS : Hid (hidsT u d lo hi xs = (hl, e2)) := hh
  have HTY : Hid (K.typV (K.typ l q) = ((b1, b2, b3), e3)) := ht
  have HLO : Hid (lostT u d b2 = (p, q1, e4)) := hlo'
  have HA : Hid ((if e1 ≠ 0 then (([], 0, 0, e1) : List (List Pt) × Int × Int × Int) else if e2 ≠ 0 then ([], 0, 0, e2) else if e4 ≠ 0 then ([], 0, 0, e4) else (hl, p, q1, 0)) = (ls, p', q', er)) := hA
  have hxl : xs.length ≤ 4096 := hbd.1
  clear hx hh ht hlo' hA hp hr hq hbd hlo hhi
  obtain ⟨w0, hw0⟩ : ∃ w0, ((((w.alloc (.cells #[.int .i64 u, .int .i64 d] 23)).alloc (.cells #[.slice la l.length lc, .slice ra ts.length rc] 27)).alloc (.cells #[.int .i64 kk, .string kc, .int .i64 kl, .int .i64 kh, .slice ka kn kd, .slice kb km kp] 31)).alloc (.cells #[.int .i64 0, .int .i64 0] 23)) = w0 := ⟨_, rfl⟩
  rw [hw0] at hb0 HN0
  have kr := K.rrun_any l ts q w0 B _ _ _ _ _ _ _ _ xs e1 (Nat.le_trans hB hb0.size) (HP.out.at hB hb0) (HRW.out.at hB hb0) (HQ.out.at hB hb0) HXS.out.1
  have mr0 := HN0.out.r0.c
  have mr1 := HN0.out.r1.c
  have mt0 := HN0.out.t0.c
  have mt1 := HN0.out.t1.c
  have ma0 := HN0.out.a0.c
  have ma1 := HN0.out.a1.c
  have ma2 := HN0.out.a2.c
  have ma3 := HN0.out.a3.c
  have ma4 := HN0.out.a4.c
  have ma5 := HN0.out.a5.c
  have mz0 := HN0.out.z0.c
  have mz1 := HN0.out.z1.c
  have mf0 := HN0.out.z0.f
  have mf1 := HN0.out.z1.f
  go_enter Tryz.func6, Tryz.ntmps6
  go_wp2_with fail
  clear hw0 mr0 mr1 mt0 mt1 ma0 ma1 ma2 ma3 ma4 ma5 mz0 mz1 mf0 mf1
  refine kr.mono ?_
  rintro e w1 ⟨xa, xc, rfl, hI1, hb1⟩
  have hbw1 := bt hb0 hb1
  have HN : Hid (Nb w1 w.heap.size u d (.slice la l.length lc) (.slice ra ts.length rc) (.int .i64 kk) (.string kc) (.int .i64 kl) (.int .i64 kh) (.slice ka kn kd) (.slice kb km kp)) := HN0.out.at hb1
  have hlw1 : w.heap.size + 1 + 1 + 1 < w1.heap.size := HN.out.z0.lt
  have HXI : Hid (Ints w1 w1.heap.size w1.heap.size (.slice xa xs.length xc) xs) := ints_K hI1 (by omega)
  clear kr hI1 hb1 HN0 hb0
  by_cases h1 : e1 = 0
  · subst h1
    have hA := HA.out
    rw [if_neg (by simp)] at hA
    have mr0 := HN.out.r0.c
    have mr1 := HN.out.r1.c
    have mt0 := HN.out.t0.c
    have mt1 := HN.out.t1.c
    have ma0 := HN.out.a0.c
    have ma1 := HN.out.a1.c
    have ma2 := HN.out.a2.c
    have ma3 := HN.out.a3.c
    have ma4 := HN.out.a4.c
    have ma5 := HN.out.a5.c
    have mz0 := HN.out.z0.c
    have mz1 := HN.out.z1.c
    have mf0 := HN.out.z0.f
    have mf1 := HN.out.z1.f
    have khd := hidesB u d lo hi xa xc xs w1 HXI HI.out.1 HI.out.2 HXS.out.2.2 hxl hl e2 HHS
    go_wp2_with fail
    refine khd.mono ?_
    rintro e w2 ⟨v2, zs, rfl, k1, k2, k3⟩
    have HD2 : Hid (DssA w2 w1.heap.size v2 zs ∧ rds zs = hl) := ⟨(id k2), k1⟩
    obtain ⟨a2, c2, hv2, _⟩ := (id k2)
    subst hv2
    have hbw2 := bt hbw1 k3
    have HN2 : Hid (Nb w2 w.heap.size u d (.slice la l.length lc) (.slice ra ts.length rc) (.int .i64 kk) (.string kc) (.int .i64 kl) (.int .i64 kh) (.slice ka kn kd) (.slice kb km kp)) := HN.out.at k3
    have hzl : zs.length ≤ 4096 := by
      have e1 := congrArg List.length HD2.out.2
      rw [rds_len] at e1
      have := hids_len HHS.out
      omega
    clear khd k1 k2 k3 mr0 mr1 mt0 mt1 ma0 ma1 ma2 ma3 ma4 ma5 mz0 mz1 mf0 mf1 HN
    by_cases h2 : e2 = 0
    · subst h2
      rw [if_neg (by simp)] at hA
      have mr0 := HN2.out.r0.c
      have mr1 := HN2.out.r1.c
      have mt0 := HN2.out.t0.c
      have mt1 := HN2.out.t1.c
      have ma0 := HN2.out.a0.c
      have ma1 := HN2.out.a1.c
      have ma2 := HN2.out.a2.c
      have ma3 := HN2.out.a3.c
      have ma4 := HN2.out.a4.c
      have ma5 := HN2.out.a5.c
      have mz0 := HN2.out.z0.c
      have mz1 := HN2.out.z1.c
      have mf0 := HN2.out.z0.f
      have mf1 := HN2.out.z1.f
      have kt := K.rtype_any l q w2 B _ _ _ _ _ _ _ b1 b2 b3 e3 (Nat.le_trans hB hbw2.size) (HP.out.at hB hbw2) (HQ.out.at hB hbw2) HTY.out
      go_wp2_with fail
      refine kt.mono ?_
      rintro e w3 ⟨rfl, hb3⟩
      have hbw3 := bt hbw2 hb3
      have HN3 : Hid (Nb (w3.alloc (.cells #[.int .i64 b1, .int .i64 b2, .int .i64 b3] 54)) w.heap.size u d (.slice la l.length lc) (.slice ra ts.length rc) (.int .i64 kk) (.string kc) (.int .i64 kl) (.int .i64 kh) (.slice ka kn kd) (.slice kb km kp)) := (HN2.out.at hb3).at (ba _ _)
      have HD3 : Hid (DssA (w3.alloc (.cells #[.int .i64 b1, .int .i64 b2, .int .i64 b3] 54)) w1.heap.size (.slice a2 zs.length c2) zs) := HD2.out.1.keep (bal hb3 _)
      have hbw3' := bal hbw3 (.cells #[.int .i64 b1, .int .i64 b2, .int .i64 b3] 54)
      clear kt hb3 mr0 mr1 mt0 mt1 ma0 ma1 ma2 ma3 ma4 ma5 mz0 mz1 mf0 mf1 HN2
      have mr0 := HN3.out.r0.c
      have mr1 := HN3.out.r1.c
      have mt0 := HN3.out.t0.c
      have mt1 := HN3.out.t1.c
      have ma0 := HN3.out.a0.c
      have ma1 := HN3.out.a1.c
      have ma2 := HN3.out.a2.c
      have ma3 := HN3.out.a3.c
      have ma4 := HN3.out.a4.c
      have ma5 := HN3.out.a5.c
      have mz0 := HN3.out.z0.c
      have mz1 := HN3.out.z1.c
      have mf0 := HN3.out.z0.f
      have mf1 := HN3.out.z1.f
      go_wp2_with fail
      refine (rlost_any u d b2 p q1 e4 HLO.out _).mono ?_
      rintro e w4 ⟨rfl, hb4⟩
      have hbw4 := bt hbw3' hb4
      have HN4 : Hid (Nb w4 w.heap.size u d (.slice la l.length lc) (.slice ra ts.length rc) (.int .i64 kk) (.string kc) (.int .i64 kl) (.int .i64 kh) (.slice ka kn kd) (.slice kb km kp)) := HN3.out.at hb4
      have HD4 : Hid (DssA w4 w1.heap.size (.slice a2 zs.length c2) zs) := HD3.out.keep hb4
      clear hb4 mr0 mr1 mt0 mt1 ma0 ma1 ma2 ma3 ma4 ma5 mz0 mz1 mf0 mf1 HN3 HD3
      by_cases h4 : e4 = 0
      · subst h4
        rw [if_neg (by simp)] at hA
        simp only [Prod.mk.injEq] at hA
        obtain ⟨rfl, rfl, rfl, rfl⟩ := hA
        have HN5 : Hid (Nb (w4.alloc (.cells #[.int .i64 p, .int .i64 q1] 23)) w.heap.size u d (.slice la l.length lc) (.slice ra ts.length rc) (.int .i64 kk) (.string kc) (.int .i64 kl) (.int .i64 kh) (.slice ka kn kd) (.slice kb km kp)) := HN4.out.at (ba _ _)
        have HC5 : Hid (Fc w4.heap.size p q1 (w4.alloc (.cells #[.int .i64 p, .int .i64 q1] 23))) := fc_new _ _ _
        obtain ⟨j1, j2, j3, j4⟩ := HC5.out
        obtain ⟨W, hW⟩ : ∃ W, w4.alloc (.cells #[.int .i64 p, .int .i64 q1] 23) = W := ⟨_, rfl⟩
        have hbW : Below w.heap.size w W := hW ▸ bal hbw4 _
        have HDW : Hid (DssA W w1.heap.size (.slice a2 zs.length c2) zs) := hW ▸ HD4.out.keep (ba _ _)
        have hlW : w.heap.size + 1 + 1 + 1 < W.heap.size := hW ▸ HN5.out.z0.lt
        rw [hW] at HN5 j1 j2 j3 j4
        have mr0 := HN5.out.r0.c
        have mr1 := HN5.out.r1.c
        have mt0 := HN5.out.t0.c
        have mt1 := HN5.out.t1.c
        have ma0 := HN5.out.a0.c
        have ma1 := HN5.out.a1.c
        have ma2 := HN5.out.a2.c
        have ma3 := HN5.out.a3.c
        have ma4 := HN5.out.a4.c
        have ma5 := HN5.out.a5.c
        have mz0 := HN5.out.z0.c
        have mz1 := HN5.out.z1.c
        have mf0 := HN5.out.z0.f
        have mf1 := HN5.out.z1.f
        go_wp2_with fail
        clear hW
        go_region_law (fail)
        go_wp2
        exact bodyPost_ret (v := .tuple #[.slice a2 zs.length c2, rv p q1, .int .i64 0]) (by simp [results, Tryz.results6, go_sem, mz0, mz1]) rfl ⟨_, zs, rfl, HD2.out.2, (((HDW.out.set hlw1).set hlw1).mono hbw1.size).keep (Below.refl _ _).drew, hzl, (bs (bs hbW (by dsimp only; omega) _) (by dsimp only; omega) _).drew⟩
      · have h5 : (e4 == 0) = false := by simpa using h4
        have h6 : (e4 != 0) = true := by simpa using h4
        rw [if_pos h4] at hA
        simp only [Prod.mk.injEq] at hA
        obtain ⟨rfl, rfl, rfl, rfl⟩ := hA
        have HN5 : Hid (Nb (w4.alloc (.cells #[.int .i64 p, .int .i64 q1] 23)) w.heap.size u d (.slice la l.length lc) (.slice ra ts.length rc) (.int .i64 kk) (.string kc) (.int .i64 kl) (.int .i64 kh) (.slice ka kn kd) (.slice kb km kp)) := HN4.out.at (ba _ _)
        have mr0 := HN5.out.r0.c
        have mr1 := HN5.out.r1.c
        have mt0 := HN5.out.t0.c
        have mt1 := HN5.out.t1.c
        have ma0 := HN5.out.a0.c
        have ma1 := HN5.out.a1.c
        have ma2 := HN5.out.a2.c
        have ma3 := HN5.out.a3.c
        have ma4 := HN5.out.a4.c
        have ma5 := HN5.out.a5.c
        have mz0 := HN5.out.z0.c
        have mz1 := HN5.out.z1.c
        have mf0 := HN5.out.z0.f
        have mf1 := HN5.out.z1.f
        go_wp2_with fail
        exact bodyPost_ret (v := .tuple #[.slice none 0 0, rv 0 0, .int .i64 e4]) (by simp [results, Tryz.results6, go_sem, mz0, mz1]) rfl ⟨_, [], rfl, rfl, DssA.nil _ _, by simp, bs (bs (bal hbw4 _) (by dsimp only; omega) _) (by dsimp only; omega) _⟩
    · have h5 : (e2 == 0) = false := by simpa using h2
      have h6 : (e2 != 0) = true := by simpa using h2
      rw [if_pos h2] at hA
      simp only [Prod.mk.injEq] at hA
      obtain ⟨rfl, rfl, rfl, rfl⟩ := hA
      have mr0 := HN2.out.r0.c
      have mr1 := HN2.out.r1.c
      have mt0 := HN2.out.t0.c
      have mt1 := HN2.out.t1.c
      have ma0 := HN2.out.a0.c
      have ma1 := HN2.out.a1.c
      have ma2 := HN2.out.a2.c
      have ma3 := HN2.out.a3.c
      have ma4 := HN2.out.a4.c
      have ma5 := HN2.out.a5.c
      have mz0 := HN2.out.z0.c
      have mz1 := HN2.out.z1.c
      have mf0 := HN2.out.z0.f
      have mf1 := HN2.out.z1.f
      go_wp2_with fail
      exact bodyPost_ret (v := .tuple #[.slice none 0 0, rv 0 0, .int .i64 e2]) (by simp [results, Tryz.results6, go_sem, mz0, mz1]) rfl ⟨_, [], rfl, rfl, DssA.nil _ _, by simp, bs (bs hbw2 (by dsimp only; omega) _) (by dsimp only; omega) _⟩
  · have hA := HA.out
    have h5 : (e1 == 0) = false := by simpa using h1
    have h6 : (e1 != 0) = true := by simpa using h1
    rw [if_pos h1] at hA
    simp only [Prod.mk.injEq] at hA
    obtain ⟨rfl, rfl, rfl, rfl⟩ := hA
    have mr0 := HN.out.r0.c
    have mr1 := HN.out.r1.c
    have mt0 := HN.out.t0.c
    have mt1 := HN.out.t1.c
    have ma0 := HN.out.a0.c
    have ma1 := HN.out.a1.c
    have ma2 := HN.out.a2.c
    have ma3 := HN.out.a3.c
    have ma4 := HN.out.a4.c
    have ma5 := HN.out.a5.c
    have mz0 := HN.out.z0.c
    have mz1 := HN.out.z1.c
    have mf0 := HN.out.z0.f
    have mf1 := HN.out.z1.f
    go_wp2_with fail
    exact bodyPost_ret (v := .tuple #[.slice none 0 0, rv 0 0, .int .i64 e1]) (by simp [results, Tryz.results6, go_sem, mz0, mz1]) rfl ⟨_, [], rfl, rfl, DssA.nil _ _, by simp, bs (bs hbw1 (by dsimp only; omega) _) (by dsimp only; omega) _⟩
end Go.Proofs.YtcmhokfeadeffaaGreat

namespace Go.Proofs.YtcmhokfeadeffaaGreat.K
open Go.RowKit Go.Proofs.YtcmhokfeadeffaaGreat.K.Ds

theorem togS_nn {xs : List Int} (h : ∀ x ∈ xs, 0 ≤ x) : 0 ≤ togS xs := by
  induction xs with
  | nil => simp [togS]
  | cons a r ih => simp only [togS]; have := h a (by simp); have := ih fun x hx => h x (by simp [hx]); omega
theorem togS_set {xs : List Int} {i : Nat} {x : Int} (h : xs[i]? = some x) (y : Int) : togS (xs.set i y) = togS xs - x + y := by
  induction xs generalizing i with
  | nil => simp at h
  | cons n r ih =>
    cases i with
    | zero => simp at h; subst h; simp only [List.set_cons_zero, togS]; omega
    | succ i => simp at h; simp only [List.set_cons_succ, togS, ih h]; omega
theorem togS_rep (n : Nat) : togS (List.replicate n 0) = 0 := by
  induction n with
  | zero => rfl
  | succ n ih => simp [List.replicate_succ, togS, ih]
theorem celT_sum {l : List Col} (hs : Szs l) : ∀ (n : Nat) (rs : List (List Int)), rs.length = n → (∀ r ∈ rs, RowOk l r) → togS (celT l rs) = rs.length := by
  intro n
  induction n with
  | zero =>
    intro rs h _
    obtain rfl : rs = [] := List.length_eq_zero_iff.1 h
    rw [celT_nil, togS_rep]; rfl
  | succ n ih =>
    intro rs h hr
    obtain ⟨pre, x, rfl⟩ : ∃ pre x, rs = pre ++ [x] := ⟨rs.dropLast, rs.getLast (by rintro rfl; simp at h), (List.dropLast_concat_getLast _).symm⟩
    have hx := hr x (by simp)
    have hp := ih pre (by simp at h; exact h) (fun r hr' => hr r (by simp [hr']))
    rw [celT_snoc hs hx]
    obtain ⟨y, hy⟩ := get_lt (l := celT l pre) (i := plc l x) (by rw [celT_len]; exact plc_lt hx)
    rw [cadd_get hy, togS_set hy, hp]
    simp
    omega

theorem apaS_nn (x y : List Int) : 0 ≤ apaS x y := by
  induction x generalizing y with
  | nil => cases y <;> simp [apaS]
  | cons a x ih => cases y with
    | nil => simp [apaS]
    | cons b y => simp only [apaS]; have := ih y; omega
theorem apaS_zero {x y : List Int} (h : x.length = y.length) : apaS x y = 0 ↔ x = y := by
  induction x generalizing y with
  | nil => cases y with
    | nil => simp [apaS]
    | cons b y => simp at h
  | cons a x ih => cases y with
    | nil => simp at h
    | cons b y =>
      simp only [apaS]
      have h1 := apaS_nn x y
      simp at h
      constructor
      · intro h2
        have h3 : apaS x y = 0 := by omega
        rw [(ih h).1 h3, show a = b by omega]
      · intro h2
        injection h2 with h3 h4
        rw [(ih h).2 h4, h3]; omega
/-- what is made of numbers has these numbers -/
theorem froR_mem {rows : List (List Int)} {cells r : List Int} (h : r ∈ froR rows cells) : r ∈ rows := by
  obtain ⟨p, hp, h2⟩ := List.mem_flatMap.1 h
  rw [(List.mem_replicate.1 h2).2]
  exact (List.of_mem_zip hp).1
theorem froR_count {rows : List (List Int)} {cells : List Int} (hinj : ∀ (i j : Nat) (x : List Int), rows[i]? = some x → rows[j]? = some x → i = j) (hl : rows.length = cells.length) {i : Nat} {r : List Int} {n : Int} (hr : rows[i]? = some r) (hn : cells[i]? = some n) : (froR rows cells).count r = n.toNat := by
  induction rows generalizing cells i with
  | nil => simp at hr
  | cons p rows ih =>
    cases cells with
    | nil => simp at hn
    | cons c cells =>
      have e : froR (p :: rows) (c :: cells) = List.replicate c.toNat p ++ froR rows cells := rfl
      have hinj2 : ∀ (i j : Nat) (x : List Int), rows[i]? = some x → rows[j]? = some x → i = j := fun i j x h1 h2 => by
        have := hinj (i + 1) (j + 1) x (by simpa using h1) (by simpa using h2); omega
      have hp : p ∉ rows := fun hm => by
        obtain ⟨j, hj⟩ := List.mem_iff_getElem?.1 hm
        have := hinj 0 (j + 1) p rfl (by simpa using hj)
        omega
      rw [e, List.count_append]
      cases i with
      | zero =>
        simp at hr hn; subst hr; subst hn
        rw [List.count_replicate_self, List.count_eq_zero.2 (fun h => hp (froR_mem h))]; omega
      | succ i =>
        simp at hr hn
        have hne : p ≠ r := by rintro rfl; exact hp (List.mem_of_getElem? hr)
        rw [ih hinj2 (by simpa using hl) hr hn, List.count_eq_zero.2 (fun h => hne (List.mem_replicate.1 h).2.symm)]; omega
theorem allT_inj {l : List Col} (hs : Szs l) (i j : Nat) (x : List Int) (h1 : (allT l)[i]? = some x) (h2 : (allT l)[j]? = some x) : i = j := by
  have hi : i < prd l := by have := (List.getElem?_eq_some_iff.1 h1).1; rwa [allT_len] at this
  have hj : j < prd l := by have := (List.getElem?_eq_some_iff.1 h2).1; rwa [allT_len] at this
  rw [allT_get hi] at h1
  rw [allT_get hj] at h2
  have e := congrArg (plc l) ((Option.some.inj h1).trans (Option.some.inj h2).symm)
  rw [plc_cel hs, plc_cel hs, Nat.mod_eq_of_lt hi, Nat.mod_eq_of_lt hj] at e
  exact e
theorem celT_fro {l : List Col} (hs : Szs l) {xs : List Int} (hl : xs.length = prd l) (hnn : ∀ x ∈ xs, 0 ≤ x) : celT l (froR (allT l) xs) = xs := by
  refine List.ext_getElem? fun i => ?_
  by_cases hi : i < prd l
  · obtain ⟨n, hn⟩ := get_lt (l := xs) (i := i) (by omega)
    rw [celT_get hi, hn, cntT, froR_count (allT_inj hs) (by rw [allT_len, hl]) (allT_get hi) hn]
    have := hnn n (List.mem_of_getElem? hn)
    congr 1; omega
  · rw [List.getElem?_eq_none (by rw [celT_len]; omega), List.getElem?_eq_none (by omega)]
theorem froR_len {rows : List (List Int)} {cells : List Int} (hl : rows.length = cells.length) (hnn : ∀ x ∈ cells, 0 ≤ x) : ((froR rows cells).length : Int) = togS cells := by
  induction rows generalizing cells with
  | nil => cases cells with
    | nil => rfl
    | cons c cells => simp at hl
  | cons p rows ih =>
    cases cells with
    | nil => simp at hl
    | cons c cells =>
      have e : froR (p :: rows) (c :: cells) = List.replicate c.toNat p ++ froR rows cells := rfl
      rw [e, List.length_append, List.length_replicate, togS]
      have := ih (by simpa using hl) (fun x h => hnn x (by simp [h]))
      have := hnn c (by simp)
      omega

theorem apaE_of {a : List Col} {ra rb : List (List Int)} (h1 : wroE a ra = 0) (h2 : wroE a rb = 0) : apaE a a ra rb = 0 := by
  rw [apaE, if_pos h1, if_pos h2, if_pos rfl]
end Go.Proofs.YtcmhokfeadeffaaGreat.K
