import Derived.Test.YtlndlpjadajelaaGreatQp14
import Derived.Test.YtlndlpjadajelaaGreatQp49
import Derived.Test.YtlndlpjadajelaaGreatQp47
import Derived.Test.YtlndlpjadajelaaGreatQp46
import Derived.Test.YtlndlpjadajelaaGreatQp24
import Derived.Test.YtlndlpjadajelaaGreatQp10
import Derived.Test.YtlndlpjadajelaaGreatQp33
import Derived.Test.YtlndlpjadajelaaGreatQp19
namespace Go.Proofs.YtlndlpjadajelaaGreat
open Go.RowKit Go.Proofs.YtlndlpjadajelaaGreat.Ds

/-! ### WHAT AN ANSWER LOSES -/
theorem far_self {L l : List Pt} (h : makeT L = (l, 0)) : farT l l = (1, 1, 0) := by
  obtain ⟨hd, g, hg, hw, ht⟩ := make_told h
  have hne := hd.ne
  cases hl : l with
  | nil => exact absurd hl hne
  | cons p r =>
    have hp : 0 < wt L p.1 := by
      rw [hw]
      exact Int.mul_pos hg (mem_wt_pos hd.rise hd.pos (by rw [hl]; exact List.mem_cons_self ..))
    rw [← hl]
    refine far_make h h (fun o => Iff.rfl) ⟨by omega, fun o _ => ⟨?_, ?_⟩⟩ (by omega) (by decide) p.1 hp ?_
    · rw [Int.mul_one, Int.one_mul]; omega
    · rw [Int.mul_one, Int.one_mul]; omega
    · rw [Int.mul_one, Int.one_mul]
theorem hide_made {u d lo hi m : Int} {l : List Pt} (h : hideT u d lo hi m = (l, 0)) : ∃ L, makeT L = (l, 0) := by
  unfold hideT at h
  split at h
  · rename_i h1
    simp only [Prod.mk.injEq] at h
    exact absurd h.2 h1
  · split at h
    · simp at h
    · split at h
      · exact ⟨_, h⟩
      · split at h
        · simp at h
        · exact ⟨_, h⟩
theorem hide_far {u d lo hi m n : Int} {l : List Pt} (h : hideT u d lo hi m = (l, 0)) :
    ∃ (l' : List Pt) (f : Nat), hideT u d lo hi n = (l', 0) ∧ (f : Int) ≤ max (m - n) (n - m) ∧ farT l l' = (u ^ f, d ^ f, 0) := by
  obtain ⟨l', h1, _, h3, h4⟩ := hide_two (n := n) h
  by_cases c : u = d ∨ lo = hi
  · obtain ⟨L, hL⟩ := hide_made h
    have e := h3 c
    refine ⟨l', 0, h1, by simp; omega, ?_⟩
    rw [← e, Int.pow_zero, Int.pow_zero]
    exact far_self hL
  · obtain ⟨f, hf, _, hff⟩ := h4 (fun k => c (.inl k)) (fun k => c (.inr k))
    refine ⟨l', f, h1, ?_, hff⟩
    rw [hf]
    unfold plcT
    omega

/-- place by place no further than n steps, all together -/
def Nf (u d : Int) : Nat → List (List Pt) → List (List Pt) → Prop
  | _, [], [] => True
  | n, l :: ls, m :: ms => ∃ f, f ≤ n ∧ farT l m = (u ^ f, d ^ f, 0) ∧ Nf u d (n - f) ls ms
  | _, _, _ => False
theorem Nf.len {u d : Int} : ∀ {n : Nat} {ls ms : List (List Pt)}, Nf u d n ls ms → ls.length = ms.length
  | _, [], [], _ => rfl
  | _, _ :: _, _ :: _, h => by
    simp only [Nf] at h
    obtain ⟨f, _, _, h⟩ := h
    simp [h.len]
  | _, [], _ :: _, h => by simp [Nf] at h
  | _, _ :: _, [], h => by simp [Nf] at h
theorem nf_hids {u d lo hi : Int} : ∀ {xs ys : List Int} {ls : List (List Pt)}, xs.length = ys.length → hidsT u d lo hi xs = (ls, 0) → ∃ ms, hidsT u d lo hi ys = (ms, 0) ∧ ∀ n : Nat, K.Ds.apaS xs ys ≤ n → Nf u d n ls ms
  | [], [], ls, _, h => by
    simp only [hidsT, Prod.mk.injEq] at h
    obtain ⟨rfl, _⟩ := h
    exact ⟨[], rfl, fun _ _ => by simp [Nf]⟩
  | x :: xs, y :: ys, ls, hl, h => by
    unfold hidsT at h
    by_cases c : (hideT u d lo hi x).2 = 0
    · by_cases c2 : (hidsT u d lo hi xs).2 = 0
      · rw [if_neg (by simpa using c), if_neg (by simpa using c2)] at h
        simp only [Prod.mk.injEq] at h
        obtain ⟨rfl, _⟩ := h
        obtain ⟨ms, hms, hn⟩ := nf_hids (ys := ys) (ls := (hidsT u d lo hi xs).1) (by simpa using hl) (by rw [← c2])
        obtain ⟨l', f, h1, h2, h3⟩ := hide_far (n := y) (l := (hideT u d lo hi x).1) (show hideT u d lo hi x = _ by rw [← c])
        refine ⟨l' :: ms, ?_, fun n hap => ?_⟩
        · unfold hidsT
          rw [h1, hms]
          simp
        · rw [K.apaS_cons] at hap
          have hnn := K.apaS_nn xs ys
          simp only [Nf]
          exact ⟨f, by omega, h3, hn _ (by omega)⟩
      · rw [if_neg (by simpa using c), if_pos (by simpa using c2)] at h
        simp only [Prod.mk.injEq] at h
        exact absurd h.2 c2
    · rw [if_pos (by simpa using c)] at h
      simp only [Prod.mk.injEq] at h
      exact absurd h.2 c
  | [], _ :: _, _, hl, _ => by simp at hl
  | _ :: _, [], _, hl, _ => by simp at hl

/-- a step of the product -/
theorem pow_step {u d : Int} {F f N : Nat} (hr : Rt.rightB u d = true) (hdu : d ≤ u) (hd : 1 ≤ d) (hN : u ^ N ≤ 1073741824) (hf : F + f ≤ N) :
    Rt.timesT (u ^ F) (d ^ F) (u ^ f) (d ^ f) = (u ^ (F + f), d ^ (F + f), 0) ∧ u ^ (F + f) * d ^ N ≤ u ^ N * d ^ (F + f) := by
  constructor
  · have b1 := pow_mono (show 1 ≤ u by omega) (show F ≤ N by omega)
    have b2 := pow_mono (show 1 ≤ u by omega) (show f ≤ N by omega)
    have b3 := pow_mono (show 1 ≤ u by omega) hf
    have b4 := pow_le (show 0 ≤ d by omega) hdu F
    have b5 := pow_le (show 0 ≤ d by omega) hdu f
    have b6 := pow_le (show 0 ≤ d by omega) hdu (F + f)
    obtain ⟨x, rfl⟩ := Int.eq_ofNat_of_zero_le (show 0 ≤ u by omega)
    obtain ⟨y, rfl⟩ := Int.eq_ofNat_of_zero_le (show 0 ≤ d by omega)
    have hg := (Rt.right_nat x y).1 hr
    rw [← Int.natCast_pow, ← Int.natCast_pow, ← Int.natCast_pow, ← Int.natCast_pow, ← Int.natCast_pow, ← Int.natCast_pow] at *
    have r1 : Rt.rightB ((x ^ F : Nat) : Int) ((y ^ F : Nat) : Int) = true := (Rt.right_nat _ _).2 ⟨by omega, Nat.pow_pos hg.2.1, by omega, Nat.Coprime.pow F F hg.2.2.2⟩
    have r2 : Rt.rightB ((x ^ f : Nat) : Int) ((y ^ f : Nat) : Int) = true := (Rt.right_nat _ _).2 ⟨by omega, Nat.pow_pos hg.2.1, by omega, Nat.Coprime.pow f f hg.2.2.2⟩
    unfold Rt.timesT
    rw [if_pos ⟨r1, r2⟩, ← Int.natCast_mul, ← Int.natCast_mul, ← Nat.pow_add, ← Nat.pow_add, Rt.mkT_coprime _ _ (Nat.pow_pos hg.2.1) (Nat.Coprime.pow _ _ hg.2.2.2), if_pos ⟨by omega, by omega⟩]
  · obtain ⟨k, rfl⟩ := Nat.le.dest hf
    have h1 := pow_le (show 0 ≤ d by omega) hdu k
    have h2 : 0 ≤ u ^ (F + f) * d ^ (F + f) := Int.mul_nonneg (pow_nn (by omega) _) (pow_nn (by omega) _)
    have h3 := Int.mul_le_mul_of_nonneg_left h1 h2
    rw [Int.pow_add d (F + f) k, Int.pow_add u (F + f) k]
    calc u ^ (F + f) * (d ^ (F + f) * d ^ k) = u ^ (F + f) * d ^ (F + f) * d ^ k := by rw [Int.mul_assoc]
      _ ≤ u ^ (F + f) * d ^ (F + f) * u ^ k := h3
      _ = u ^ (F + f) * u ^ k * d ^ (F + f) := by rw [Int.mul_right_comm]

/-- AN ANSWER LOSES NO MORE THAN IT SAYS -/
theorem ans_private {u d lo hi : Int} {l : List K.Ds.Col} {rs us : List (List Int)} {q : K.Ds.Qu} (hq : q ≠ .none) (h1 : K.Ds.wroE l rs = 0) (h2 : K.Ds.wroE l us = 0) (hD : K.Ds.apaS (K.Ds.celT l rs) (K.Ds.celT l us) = 1)
    {ls : List (List Pt)} {p q1 : Int} (hA : ansT u d lo hi l rs q = (ls, p, q1, 0)) :
    ∃ (ms : List (List Pt)) (N : Nat), ansT u d lo hi l us q = (ms, p, q1, 0) ∧ Nf u d N ls ms ∧ p = u ^ N ∧ q1 = d ^ N ∧ Rt.rightB u d = true ∧ d ≤ u ∧ 1 ≤ d ∧ u ^ N ≤ 1073741824 := by
  cases ht : K.typ l q with
  | error e =>
    have hne := K.typ_ne ht
    have hx : K.runV (K.runT l rs q) = ([], e) := by rw [K.runT_typ h1, ht]; rfl
    unfold ansT at hA
    simp only [hx] at hA
    rw [if_pos hne] at hA
    simp only [Prod.mk.injEq] at hA
    exact absurd hA.2.2.2 hne
  | ok b =>
    obtain ⟨b1, b2, b3⟩ := b
    have hx : K.runV (K.runT l rs q) = (K.ans l rs q, 0) := by rw [K.runT_typ h1, ht]; rfl
    have hx2 : K.runV (K.runT l us q) = (K.ans l us q, 0) := by rw [K.runT_typ h2, ht]; rfl
    have hty : K.typV (K.typ l q) = ((b1, b2, b3), 0) := by rw [ht]; rfl
    unfold ansT at *
    rw [ht] at hty
    simp only [hx, hty, ht, ne_eq, not_true_eq_false, if_false] at hA
    simp only [hx2, hty, ht, ne_eq, not_true_eq_false, if_false]
    obtain ⟨hce, hle, hok⟩ := K.Ds.wroE_ok h1
    obtain ⟨_, hle2, hok2⟩ := K.Ds.wroE_ok h2
    have hsz := (K.Ds.colE_ok hce).2.2.1
    have hb := (K.typ_ok ht).2
    have hsd := K.ans_ok hsz hle q 1 _ hb hq
    have hsd2 := K.ans_ok hsz hle2 q 1 _ hb hq
    have hdd := K.ans_D hsz hle hle2 hok hok2 q 1 _ hb
    rw [hD] at hdd
    simp only at hdd hsd hsd2
    by_cases c1 : (hidsT u d lo hi (K.ans l rs q)).2 = 0
    · rw [if_neg (by simpa using c1)] at hA
      by_cases c2 : (lostT u d b2).2.2 = 0
      · rw [if_neg (by simpa using c2)] at hA
        simp only [Prod.mk.injEq] at hA
        obtain ⟨rfl, hp, hq1, _⟩ := hA
        obtain ⟨ms, hms, hn⟩ := nf_hids (ls := (hidsT u d lo hi (K.ans l rs q)).1) (ys := K.ans l us q) (by omega) (show hidsT u d lo hi (K.ans l rs q) = _ by rw [← c1])
        have hlo : lossE u d = 0 := by
          by_cases c : lossE u d = 0
          · exact c
          · unfold lostT at c2; rw [if_pos c] at c2; exact absurd c2 c
        obtain ⟨hr, hdu, hd1, _⟩ := loss_ok hlo
        have e1 : lostT u d b2 = Rt.powT u d b2 := by unfold lostT; rw [if_neg (by simpa using hlo)]
        rw [e1] at hp hq1 c2
        unfold Rt.powT Rt.mx at hp hq1 c2
        rw [if_pos hr] at hp hq1 c2
        by_cases k1 : b2 < 0 ∨ 4096 < b2
        · rw [if_pos k1] at c2; simp at c2
        · rw [if_neg k1] at hp hq1 c2
          by_cases k2 : 1073741824 < u ^ b2.toNat ∨ 1073741824 < d ^ b2.toNat
          · rw [if_pos k2] at c2; simp at c2
          · rw [if_neg k2] at hp hq1 c2
            simp only at hp hq1
            refine ⟨ms, b2.toNat, ?_, hn _ (by omega), hp.symm, hq1.symm, hr, hdu, hd1, by omega⟩
            rw [hms]
            simp only
            rw [if_neg (by simp), e1]
            unfold Rt.powT Rt.mx
            rw [if_pos hr, if_neg k1, if_neg k2]
            simp only
            rw [if_neg (by simp), hp, hq1]
      · rw [if_pos (by simpa using c2)] at hA
        simp only [Prod.mk.injEq] at hA
        exact absurd hA.2.2.2 c2
    · rw [if_pos (by simpa using c1)] at hA
      simp only [Prod.mk.injEq] at hA
      exact absurd hA.2.2.2 c1
end Go.Proofs.YtlndlpjadajelaaGreat

namespace Go.Proofs.YtlndlpjadajelaaGreat
open Go.RowKit Go.Proofs.YtlndlpjadajelaaGreat.Ds

/-- a loss, two tables and a question in boxes -/
structure Np (W : World) (N : Nat) (u d : Int) (cu ru cv tv v0 v1 v2 v3 v4 v5 : Value) : Prop where
  r0 : K.Cl W N 0 (.int .i64 u)
  r1 : K.Cl W N 1 (.int .i64 d)
  s0 : K.Cl W (N + 1) 0 cu
  s1 : K.Cl W (N + 1) 1 ru
  t0 : K.Cl W (N + 1 + 1) 0 cv
  t1 : K.Cl W (N + 1 + 1) 1 tv
  a0 : K.Cl W (N + 1 + 1 + 1) 0 v0
  a1 : K.Cl W (N + 1 + 1 + 1) 1 v1
  a2 : K.Cl W (N + 1 + 1 + 1) 2 v2
  a3 : K.Cl W (N + 1 + 1 + 1) 3 v3
  a4 : K.Cl W (N + 1 + 1 + 1) 4 v4
  a5 : K.Cl W (N + 1 + 1 + 1) 5 v5
theorem Np.at {W W' : World} {N : Nat} {u d : Int} {cu ru cv tv v0 v1 v2 v3 v4 v5 : Value} (h : Np W N u d cu ru cv tv v0 v1 v2 v3 v4 v5) (hb : Below W.heap.size W W') : Np W' N u d cu ru cv tv v0 v1 v2 v3 v4 v5 :=
  ⟨h.r0.at hb, h.r1.at hb, h.s0.at hb, h.s1.at hb, h.t0.at hb, h.t1.at hb, h.a0.at hb, h.a1.at hb, h.a2.at hb, h.a3.at hb, h.a4.at hb, h.a5.at hb⟩
theorem Np.new (w : World) (u d : Int) (cu ru cv tv v0 v1 v2 v3 v4 v5 : Value) : Np ((((w.alloc (.cells #[.int .i64 u, .int .i64 d] 23)).alloc (.cells #[cu, ru] 27)).alloc (.cells #[cv, tv] 27)).alloc (.cells #[v0, v1, v2, v3, v4, v5] 31)) w.heap.size u d cu ru cv tv v0 v1 v2 v3 v4 v5 := by
  constructor
  all_goals first
    | exact (((K.Cl.new _ 23 _ _ rfl rfl).at (ba _ _)).at (ba _ _)).at (ba _ _)
    | exact ((K.Cl.new _ 27 _ _ (by simp) rfl).at (ba _ _)).at (ba _ _)
    | exact (K.Cl.new _ 27 _ _ (by simp) rfl).at (ba _ _)
    | exact K.Cl.new _ 31 _ _ (by simp) rfl

theorem fc_lt {b : Nat} {n m : Int} {W : World} (h : Fc b n m W) : b < W.heap.size := by
  have h := h.1
  unfold World.cell? at h
  split at h
  · rename_i hb; exact (Array.getElem?_eq_some_iff.1 hb).1
  · cases h
theorem Nf.step {u d : Int} {n i : Nat} {ls ms : List (List Pt)} {l m : List Pt} (h : Nf u d n (ls.drop i) (ms.drop i)) (hl : ls[i]? = some l) (hm : ms[i]? = some m) : ∃ f, f ≤ n ∧ farT l m = (u ^ f, d ^ f, 0) ∧ Nf u d (n - f) (ls.drop (i + 1)) (ms.drop (i + 1)) := by
  rw [List.drop_eq_getElem_cons (List.getElem?_eq_some_iff.1 hl).1, List.drop_eq_getElem_cons (List.getElem?_eq_some_iff.1 hm).1, (List.getElem?_eq_some_iff.1 hl).2, (List.getElem?_eq_some_iff.1 hm).2] at h
  simpa only [Nf] using h

set_option maxHeartbeats 4000000 in
set_option maxRecDepth 100000 in
theorem noisePrivate_walk (B : Nat) (u d lo hi : Int) (cu ru cv tv v0 v1 v2 v3 v4 v5 : Value) (l : List K.Ds.Col) (ts : List K.Rw) (m : List K.Ds.Col) (us : List K.Rw) (q : K.Ds.Qu) (w : World) (hB : B ≤ w.heap.size) (hp : K.Cols w B cu l) (hr : K.Rws w B ru ts) (hp2 : K.Cols w B cv m) (hr2 : K.Rws w B tv us) (hq : K.Qm w B q v0 v1 v2 v3 v4 v5) (hlo : I64 lo) (hhi : I64 hi) :
    Calls Tryz.prog 4 #[rv u d, .int .i64 lo, .int .i64 hi, .agg #[cu, ru], .agg #[cv, tv], .agg #[v0, v1, v2, v3, v4, v5]] w fun e w' => e = .returned (.bool true) ∧ Below w.heap.size w w' := by
  have HP : Hid (K.Cols w B cu l) := hp
  have HRW : Hid (K.Rws w B ru ts) := hr
  have HP2 : Hid (K.Cols w B cv m) := hp2
  have HRW2 : Hid (K.Rws w B tv us) := hr2
  have HQ : Hid (K.Qm w B q v0 v1 v2 v3 v4 v5) := hq
  have HI : Hid (I64 lo ∧ I64 hi) := ⟨hlo, hhi⟩
  obtain ⟨la, lc, rfl, _⟩ := hp.slice
  obtain ⟨ra, rc, rfl, _⟩ := hr.slice
  obtain ⟨ma, mc, rfl, _⟩ := hp2.slice
  obtain ⟨sa, sc, rfl, _⟩ := hr2.slice
  obtain ⟨kk, kc, kl, kh, ka, kn, kd, kb, km, kp, rfl, rfl, rfl, rfl, rfl, rfl⟩ := hq.shape
  have hb0 : Below w.heap.size w ((((w.alloc (.cells #[.int .i64 u, .int .i64 d] 23)).alloc (.cells #[.slice la l.length lc, .slice ra ts.length rc] 27)).alloc (.cells #[.slice ma m.length mc, .slice sa us.length sc] 27)).alloc (.cells #[.int .i64 kk, .string kc, .int .i64 kl, .int .i64 kh, .slice ka kn kd, .slice kb km kp] 31)) := bal (bal (bal (ba _ _) _) _) _
  have HM0 : Hid (Np ((((w.alloc (.cells #[.int .i64 u, .int .i64 d] 23)).alloc (.cells #[.slice la l.length lc, .slice ra ts.length rc] 27)).alloc (.cells #[.slice ma m.length mc, .slice sa us.length sc] 27)).alloc (.cells #[.int .i64 kk, .string kc, .int .i64 kl, .int .i64 kh, .slice ka kn kd, .slice kb km kp] 31)) w.heap.size u d (.slice la l.length lc) (.slice ra ts.length rc) (.slice ma m.length mc) (.slice sa us.length sc) (.int .i64 kk) (.string kc) (.int .i64 kl) (.int .i64 kh) (.slice ka kn kd) (.slice kb km kp)) := Np.new _ _ _ _ _ _ _ _ _ _ _ _ _
  clear hp hr hp2 hr2 hq hlo hhi
  go_enter Tryz.func4, Tryz.ntmps4
  go_wp2_with fail
  refine (alive_any _).mono ?_
  rintro e w1 ⟨rfl, hb1⟩
  have hbw1 := bt hb0 hb1
  have HM1 : Hid (Np w1 w.heap.size u d (.slice la l.length lc) (.slice ra ts.length rc) (.slice ma m.length mc) (.slice sa us.length sc) (.int .i64 kk) (.string kc) (.int .i64 kl) (.int .i64 kh) (.slice ka kn kd) (.slice kb km kp)) := HM0.out.at hb1
  clear hb0 hb1 HM0
  obtain ⟨n, hn⟩ : ∃ n, K.Ds.apaT l m (K.rr ts) (K.rr us) = n := ⟨_, rfl⟩
  obtain ⟨ea, hea⟩ : ∃ ea, K.Ds.apaE l m (K.rr ts) (K.rr us) = ea := ⟨_, rfl⟩
  have k2 := K.apart_any B _ _ _ _ l m ts us w1 (Nat.le_trans hB hbw1.size) (HP.out.at hB hbw1) (HRW.out.at hB hbw1) (HP2.out.at hB hbw1) (HRW2.out.at hB hbw1) n ea hn hea
  have HNN : Hid (K.Ds.apaT l m (K.rr ts) (K.rr us) = n) := hn
  have HEA : Hid (K.Ds.apaE l m (K.rr ts) (K.rr us) = ea) := hea
  clear hn hea
  have mr0 := HM1.out.r0.c
  have mr1 := HM1.out.r1.c
  have ms0 := HM1.out.s0.c
  have ms1 := HM1.out.s1.c
  have mt0 := HM1.out.t0.c
  have mt1 := HM1.out.t1.c
  have ma0 := HM1.out.a0.c
  have ma1 := HM1.out.a1.c
  have ma2 := HM1.out.a2.c
  have ma3 := HM1.out.a3.c
  have ma4 := HM1.out.a4.c
  have ma5 := HM1.out.a5.c
  go_wp2_with fail
  refine k2.mono ?_
  rintro e w2 ⟨rfl, hb2⟩
  clear mr0 mr1 ms0 ms1 mt0 mt1 ma0 ma1 ma2 ma3 ma4 ma5
  clear k2
  have hbw2 := bt hbw1 hb2
  have HM2 : Hid (Np w2 w.heap.size u d (.slice la l.length lc) (.slice ra ts.length rc) (.slice ma m.length mc) (.slice sa us.length sc) (.int .i64 kk) (.string kc) (.int .i64 kl) (.int .i64 kh) (.slice ka kn kd) (.slice kb km kp)) := HM1.out.at hb2
  clear hb2 HM1 hbw1
  by_cases he : ea = 0
  · subst he
    by_cases hn1 : n = 1
    · subst hn1
      obtain ⟨ewa, ewb, rfl⟩ := K.apaE_ok HEA.out
      have HWA : Hid (K.Ds.wroE l (K.rr ts) = 0 ∧ K.Ds.wroE l (K.rr us) = 0) := ⟨ewa, ewb⟩
      have HNC : Hid (K.Ds.apaS (K.Ds.celT l (K.rr ts)) (K.Ds.celT l (K.rr us)) = 1) := by have := HNN.out; rwa [K.Ds.apaT, if_pos HEA.out] at this
      clear ewa ewb HNN HEA
      obtain ⟨⟨ls, p, q1, er⟩, hA⟩ : ∃ y, ansT u d lo hi l (K.rr ts) q = y := ⟨_, rfl⟩
      have HA : Hid (ansT u d lo hi l (K.rr ts) q = (ls, p, q1, er)) := hA
      clear hA
      have k3 := nanswer_any B u d lo hi _ _ _ _ _ _ _ _ l ts q w2 (Nat.le_trans hB hbw2.size) (HP.out.at hB hbw2) (HRW.out.at hB hbw2) (HQ.out.at hB hbw2) HI.out.1 HI.out.2 ls p q1 er HA.out
      have mr0 := HM2.out.r0.c
      have mr1 := HM2.out.r1.c
      have ms0 := HM2.out.s0.c
      have ms1 := HM2.out.s1.c
      have mt0 := HM2.out.t0.c
      have mt1 := HM2.out.t1.c
      have ma0 := HM2.out.a0.c
      have ma1 := HM2.out.a1.c
      have ma2 := HM2.out.a2.c
      have ma3 := HM2.out.a3.c
      have ma4 := HM2.out.a4.c
      have ma5 := HM2.out.a5.c
      go_wp2_with fail
      refine k3.mono ?_
      rintro e w3 ⟨v', zs, rfl, j1, j2, j3, j4⟩
      clear mr0 mr1 ms0 ms1 mt0 mt1 ma0 ma1 ma2 ma3 ma4 ma5
      have hs2 : 0 < w2.heap.size := Nat.lt_of_le_of_lt (Nat.zero_le _) HM2.out.r0.lt
      have HD3 : Hid (Dss w3 w3.heap.size v' zs ∧ rds zs = ls) := ⟨j2.dss hs2, j1⟩
      obtain ⟨a2, c2, hv2, _⟩ := j2
      subst hv2
      have hzl : zs.length ≤ 4096 := j3
      have hbw3 := bt hbw2 j4
      have HM3 : Hid (Np (w3.alloc (.cells #[.int .i64 p, .int .i64 q1] 23)) w.heap.size u d (.slice la l.length lc) (.slice ra ts.length rc) (.slice ma l.length mc) (.slice sa us.length sc) (.int .i64 kk) (.string kc) (.int .i64 kl) (.int .i64 kh) (.slice ka kn kd) (.slice kb km kp)) := (HM2.out.at j4).at (ba _ _)
      have hbc := bal hbw3 (.cells #[.int .i64 p, .int .i64 q1] 23)
      have HC3 : Hid (Fc w3.heap.size p q1 (w3.alloc (.cells #[.int .i64 p, .int .i64 q1] 23))) := fc_new _ _ _
      have HDC : Hid (Dss (w3.alloc (.cells #[.int .i64 p, .int .i64 q1] 23)) (w3.alloc (.cells #[.int .i64 p, .int .i64 q1] 23)).heap.size (.slice a2 zs.length c2) zs) := HD3.out.1.at3 (ba _ _)
      clear k3 j1 j3 j4 HM2 hbw2 hs2
      by_cases her : er = 0
      · subst her
        obtain ⟨ms, Nn, hA2, hNf, hpe, hqe, hR, hdu, hd1, hum⟩ := ans_private HQ.out.ne HWA.out.1 HWA.out.2 HNC.out HA.out
        have HA2 : Hid (ansT u d lo hi l (K.rr us) q = (ms, p, q1, 0)) := hA2
        have HNF : Hid (Nf u d Nn ls ms) := hNf
        have HPQ : Hid (p = u ^ Nn ∧ q1 = d ^ Nn) := ⟨hpe, hqe⟩
        have HR : Hid (Rt.rightB u d = true ∧ d ≤ u ∧ 1 ≤ d ∧ u ^ Nn ≤ 1073741824) := ⟨hR, hdu, hd1, hum⟩
        clear hA2 hNf hpe hqe hR hdu hd1 hum
        have k4 := nanswer_any B u d lo hi _ _ _ _ _ _ _ _ l us q _ (Nat.le_trans hB hbc.size) (HP2.out.at hB hbc) (HRW2.out.at hB hbc) (HQ.out.at hB hbc) HI.out.1 HI.out.2 ms p q1 0 HA2.out
        have mr0 := HM3.out.r0.c
        have mr1 := HM3.out.r1.c
        have ms0 := HM3.out.s0.c
        have ms1 := HM3.out.s1.c
        have mt0 := HM3.out.t0.c
        have mt1 := HM3.out.t1.c
        have ma0 := HM3.out.a0.c
        have ma1 := HM3.out.a1.c
        have ma2 := HM3.out.a2.c
        have ma3 := HM3.out.a3.c
        have ma4 := HM3.out.a4.c
        have ma5 := HM3.out.a5.c
        go_wp2_with fail
        refine k4.mono ?_
        rintro e w4 ⟨v', ys, rfl, j1, j2, j3, j4⟩
        clear mr0 mr1 ms0 ms1 mt0 mt1 ma0 ma1 ma2 ma3 ma4 ma5
        have hs3 : 0 < (w3.alloc (.cells #[.int .i64 p, .int .i64 q1] 23)).heap.size := Nat.lt_of_le_of_lt (Nat.zero_le _) HM3.out.r0.lt
        have HE4 : Hid (Dss w4 w4.heap.size v' ys ∧ rds ys = ms) := ⟨j2.dss hs3, j1⟩
        obtain ⟨a3, c3, hv3, _⟩ := j2
        subst hv3
        have hyl : ys.length ≤ 4096 := j3
        have hlz : zs.length = ys.length := by
          have e1 := HNF.out.len
          rw [← HE4.out.2, ← HD3.out.2, rds_len, rds_len] at e1
          exact e1
        have hbw4 := bt hbc j4
        have hs3' : w3.heap.size < (w3.alloc (.cells #[.int .i64 p, .int .i64 q1] 23)).heap.size := by simp
        have HC4 : Hid (Fc w3.heap.size p q1 w4) := HC3.out.at j4 hs3'
        have HD4 : Hid (Dss w4 w4.heap.size (.slice a2 zs.length c2) zs) := HDC.out.at3 j4
        have hs4 : w3.heap.size < w4.heap.size := Nat.lt_of_lt_of_le hs3' j4.size
        clear k4 j1 j3 j4 HM3 hs3 hs3' HC3 HDC hbc hbw3
        -- the other loss in its box
        obtain ⟨w5, hw5⟩ : ∃ w5, w4.alloc (.cells #[.int .i64 p, .int .i64 q1] 23) = w5 := ⟨_, rfl⟩
        have hbw5 : Below w.heap.size w w5 := hw5 ▸ bal hbw4 _
        have HC5 : Hid (Fc w3.heap.size p q1 w5) := hw5 ▸ HC4.out.at (ba _ _) hs4
        have HO5 : Hid (Fc w4.heap.size p q1 w5) := hw5 ▸ fc_new _ _ _
        have HD5 : Hid (Dss w5 w5.heap.size (.slice a2 zs.length c2) zs) := hw5 ▸ HD4.out.at3 (ba _ _)
        have HE5 : Hid (Dss w5 w5.heap.size (.slice a3 ys.length c3) ys) := hw5 ▸ HE4.out.1.at3 (ba _ _)
        have hs5 : w4.heap.size < w5.heap.size := by rw [← hw5]; simp
        obtain ⟨x1, x2, _, _⟩ := HC5.out
        obtain ⟨y1, y2, _, _⟩ := HO5.out
        have hle : ((zs.length : Int) != (ys.length : Int)) = false := by simp [hlz]
        have HLZ : Hid (zs.length = ys.length) := hlz
        clear hlz
        go_wp2_with fail
        clear hw5
        obtain ⟨W, hW⟩ : ∃ W, w5.alloc (.cells #[.int .i64 1, .int .i64 1] 23) = W := ⟨_, rfl⟩
        have h5W : Below w5.heap.size w5 W := hW ▸ ba _ _
        have HG0 : Hid (Fc w5.heap.size 1 1 W) := hW ▸ fc_new _ _ _
        have hGW : w5.heap.size < W.heap.size := by rw [← hW]; simp
        have HL0 : Hid (Fc w3.heap.size p q1 W) := HC5.out.at h5W (by omega)
        rw [hW]
        clear hW x1 x2 y1 y2
        go_loopw [76] (fun iv wr => ∃ (i F k : Nat), iv = .int .i64 (i : Int) ∧ i ≤ zs.length ∧ Hid (F + k = Nn ∧ Nf u d k ((rds zs).drop i) ((rds ys).drop i) ∧ Fc w5.heap.size (u ^ F) (d ^ F) wr) ∧ Hid (Fc w3.heap.size p q1 wr) ∧ w5.heap.size < wr.heap.size ∧ Below w5.heap.size w5 wr) (fun iv _ => zs.length - (intOf iv).toNat)
        case atStart => exact ⟨0, 0, Nn, rfl, Nat.zero_le _, ⟨Nat.zero_add _, by rw [List.drop_zero, List.drop_zero, HD3.out.2, HE4.out.2]; exact HNF.out, by rw [Int.pow_zero, Int.pow_zero]; exact HG0.out⟩, HL0, hGW, h5W⟩
        case round => as_aux_lemma =>
          obtain ⟨i, F, k, rfl, hit, HY, HL, hGl, hbl⟩ := hrel
          by_cases h1 : i < zs.length
          · have h2 : i < ys.length := by have := HLZ.out; omega
            obtain ⟨b, o, na, nc, xs, rfl, hb, hs, c1, hI⟩ := HD5.out.get (Nat.le_refl _) hbl h1
            obtain ⟨b2, o2, na2, nc2, xs2, rfl, hb2, hs2, c2, hI2⟩ := HE5.out.get (Nat.le_refl _) hbl h2
            obtain ⟨f, hf, hfar, hnf⟩ := HY.out.2.1.step (rds_get hs) (rds_get hs2)
            have HFF : Hid (F + f ≤ Nn ∧ F + f + (k - f) = Nn ∧ Nf u d (k - f) ((rds zs).drop (i + 1)) ((rds ys).drop (i + 1))) := ⟨by have := HY.out.1; omega, by have := HY.out.1; omega, hnf⟩
            have HG : Hid (Fc w5.heap.size (u ^ F) (d ^ F) wr) := HY.out.2.2
            have hst := pow_step (F := F) (f := f) HR.out.1 HR.out.2.1 HR.out.2.2.1 HR.out.2.2.2 HFF.out.1
            have HPP : Hid (p = u ^ Nn ∧ q1 = d ^ Nn) := HPQ.out
            have HI1 : Hid (Parts wr wr.heap.size (.slice na xs.length nc) xs) := hI.mono (by omega)
            have HI2 : Hid (Parts wr wr.heap.size (.slice na2 xs2.length nc2) xs2) := hI2.mono (by omega)
            rw [← HPQ.out.1, ← HPQ.out.2] at hst
            obtain ⟨n3, hn3⟩ : ∃ n3, u ^ f = n3 := ⟨_, rfl⟩
            obtain ⟨d3, hd3⟩ : ∃ d3, d ^ f = d3 := ⟨_, rfl⟩
            obtain ⟨V, hV⟩ : ∃ V, u ^ F = V := ⟨_, rfl⟩
            obtain ⟨E, hE⟩ : ∃ E, d ^ F = E := ⟨_, rfl⟩
            obtain ⟨V', hV'⟩ : ∃ V, u ^ (F + f) = V := ⟨_, rfl⟩
            obtain ⟨E', hE'⟩ : ∃ E, d ^ (F + f) = E := ⟨_, rfl⟩
            rw [hn3, hd3] at hst hfar
            rw [hV, hE] at hst HG
            rw [hV', hE'] at hst
            have HX3 : Hid (farT (rd xs) (rd xs2) = (n3, d3, 0)) := hfar
            have HT : Hid (Rt.timesT V E n3 d3 = (V', E', 0)) := hst.1
            have HMo : Hid (V' * q1 ≤ p * E') := hst.2
            have HVE : Hid (u ^ (F + f) = V' ∧ d ^ (F + f) = E') := ⟨hV', hE'⟩
            clear hs hs2 hI hI2 hf hfar hnf hst hn3 hd3 hV hE hV' hE' HY
            have g1 : (0 : Int) ≤ (i : Int) := by omega
            have g2 : (i : Int) < (zs.length : Int) := by omega
            have g3 : (i : Int) < (ys.length : Int) := by omega
            have lw1 : b < wr.heap.size := by omega
            have lw2 : b2 < wr.heap.size := by omega
            go_upto_region 16 with fail
            go_cut [21, 22] (fun pv ev wx => ∃ A, pv = .pointer (some ⟨A, 0, none⟩) ∧ ev = .int .i64 0 ∧ Fc A n3 d3 wx ∧ wr.heap.size ≤ A ∧ A < wx.heap.size ∧ Below wr.heap.size wr wx)
            case first => as_aux_lemma =>
              go_region_held3 (fun w' => w'.cell? ⟨b, o + i, none⟩ = some (.slice na xs.length nc) ∧ w'.cell? ⟨b2, o2 + i, none⟩ = some (.slice na2 xs2.length nc2))
                ((go_split_ands; refine ⟨?_, ?_⟩ <;> first | with_reducible assumption | (refine ((ba _ _).cell (p := ⟨b, o + i, none⟩) ?_).trans ?_; (show b < _; first | exact lw1 | exact lx1 | omega); (first | exact z1 | exact c1)) | (refine ((ba _ _).cell (p := ⟨b2, o2 + i, none⟩) ?_).trans ?_; (show b2 < _; first | exact lw2 | exact lx2 | omega); (first | exact z2 | exact c2)) | (simp [go_sem, *]; done)))
                ((go_at_call 13; refine (far_any wr.heap.size _ _ xs xs2 _ ?_ ?_ ?_ n3 d3 0 HX3.out).mono ?_; (exact ((by first | with_reducible exact (Below.refl wr.heap.size wr) | with_reducible exact (Below.refl wr.heap.size wr).drew | with_reducible exact bal (Below.refl wr.heap.size wr) _ | with_reducible exact bal (Below.refl wr.heap.size wr).drew _ | with_reducible exact (bal (Below.refl wr.heap.size wr) _).drew) : Below wr.heap.size wr _).size); (exact HI1.out.at (Nat.le_refl _) (by first | with_reducible exact (Below.refl wr.heap.size wr) | with_reducible exact (Below.refl wr.heap.size wr).drew | with_reducible exact bal (Below.refl wr.heap.size wr) _ | with_reducible exact bal (Below.refl wr.heap.size wr).drew _ | with_reducible exact (bal (Below.refl wr.heap.size wr) _).drew)); (exact HI2.out.at (Nat.le_refl _) (by first | with_reducible exact (Below.refl wr.heap.size wr) | with_reducible exact (Below.refl wr.heap.size wr).drew | with_reducible exact bal (Below.refl wr.heap.size wr) _ | with_reducible exact bal (Below.refl wr.heap.size wr).drew _ | with_reducible exact (bal (Below.refl wr.heap.size wr) _).drew)); rintro e w7 ⟨rfl, hb7'⟩; have hb7 : Below wr.heap.size wr w7 := bt (by first | with_reducible exact (Below.refl wr.heap.size wr) | with_reducible exact (Below.refl wr.heap.size wr).drew | with_reducible exact bal (Below.refl wr.heap.size wr) _ | with_reducible exact bal (Below.refl wr.heap.size wr).drew _ | with_reducible exact (bal (Below.refl wr.heap.size wr) _).drew) hb7'; have z1 : w7.cell? ⟨b, o + i, none⟩ = some (.slice na xs.length nc) := (hb7.cell (p := ⟨b, o + i, none⟩) lw1).trans c1; have z2 : w7.cell? ⟨b2, o2 + i, none⟩ = some (.slice na2 xs2.length nc2) := (hb7.cell (p := ⟨b2, o2 + i, none⟩) lw2).trans c2; have s7 := hb7.size; have lx1 : b < w7.heap.size := Nat.lt_of_lt_of_le lw1 s7; have lx2 : b2 < w7.heap.size := Nat.lt_of_lt_of_le lw2 s7; (first | (have kf := (fc_new wr 0 0).at hb7' (by simp); obtain ⟨y1, y2, y3, y4⟩ : Fc wr.heap.size 0 0 w7 := kf) | (have kf := (fc_new wr.drew 0 0).at hb7' (by simp); obtain ⟨y1, y2, y3, y4⟩ : Fc wr.heap.size 0 0 w7 := kf) | skip)))
              all_goals (go_wp2; go_meet; first | exact ⟨_, rfl, rfl, fc_new _ _ _, by omega, by simp, bal hb7 _⟩ | exact ⟨_, rfl, rfl, Fc.set ⟨y1, y2, y3, y4⟩ _ _, by omega, fc_lt (Fc.set ⟨y1, y2, y3, y4⟩ _ _), bs (bs hb7 (by dsimp only; omega) _) (by dsimp only; omega) _⟩)
            case rest => as_aux_lemma =>
              obtain ⟨A, rfl, rfl, hA, hA1, hA2, hbc⟩ := hcut
              have HAc : Hid (Fc A n3 d3 wc) := hA
              have HGc : Hid (Fc w5.heap.size V E wc) := HG.out.at hbc hGl
              have HLc : Hid (Fc w3.heap.size p q1 wc) := HL.out.at hbc (by omega)
              have hsc := hbc.size
              have hblc : Below w5.heap.size w5 wc := bt hbl hbc
              have hGc : w5.heap.size < wc.heap.size := by omega
              obtain ⟨x1, x2, x3, x4⟩ := HGc.out
              obtain ⟨y1, y2, _, _⟩ := HAc.out
              clear hA hbc c1 c2
              go_wp2_with fail
              refine (refTimes_any V E n3 d3 V' E' 0 HT.out wc).mono ?_
              rintro e w6 ⟨rfl, hb6⟩
              clear x1 x2 x3 x4 y1 y2
              have HG6 : Hid (Fc w5.heap.size V E w6) := HGc.out.at hb6 hGc
              have HL6 : Hid (Fc w3.heap.size p q1 w6) := HLc.out.at hb6 (by omega)
              have hbl6 : Below w5.heap.size w5 w6 := bt hblc hb6
              obtain ⟨x1, x2, x3, x4⟩ := HG6.out
              have hs6 := hb6.size
              clear hb6 HGc HLc HAc
              go_upto_region 20 with fail
              obtain ⟨W7, hW7⟩ : ∃ W7, (w6.setCell ⟨w5.heap.size, 0, none⟩ (.int .i64 V')).setCell ⟨w5.heap.size, 1, none⟩ (.int .i64 E') = W7 := ⟨_, rfl⟩
              have HG7 : Hid (Fc w5.heap.size V' E' W7) := hW7 ▸ HG6.out.set _ _
              have HL7 : Hid (Fc w3.heap.size p q1 W7) := hW7 ▸ (HL6.out.beside (by omega) _ _).beside (by omega) _ _
              have hbl7 : Below w5.heap.size w5 W7 := hW7 ▸ bs (bs hbl6 (Nat.le_refl _) _) (Nat.le_refl _) _
              have hG7 : w5.heap.size < W7.heap.size := fc_lt HG7.out
              rw [hW7]
              clear hW7 x1 x2 x3 x4 hbl6 HG6 HL6
              have hbt := times_bd HT.out
              have hpb : 0 ≤ p ∧ p ≤ 1073741824 ∧ 0 ≤ q1 ∧ q1 ≤ 1073741824 := by
                obtain ⟨e1, e2⟩ := HPQ.out
                obtain ⟨_, r2, r3, r4⟩ := HR.out
                have i1 := pow_nn (show 0 ≤ u by omega) Nn
                have i2 := pow_nn (show 0 ≤ d by omega) Nn
                have i3 := pow_le (show 0 ≤ d by omega) r2 Nn
                rw [e1, e2]
                exact ⟨i1, r4, i2, Int.le_trans i3 r4⟩
              have km := refMost_any V' E' p q1 hbt.1 hbt.2.1 hbt.2.2.1 hbt.2.2.2 hpb.1 hpb.2.1 hpb.2.2.1 hpb.2.2.2 true (decide_eq_true HMo.out) W7
              obtain ⟨x1, x2, _, _⟩ := HG7.out
              obtain ⟨y1, y2, _, _⟩ := HL7.out
              clear hbt hpb
              go_wp2_with fail
              refine km.mono ?_
              rintro e w8 ⟨rfl, hb8⟩
              clear km x1 x2 y1 y2
              have hs8 := hb8.size
              have HG8 : Hid (Fc w5.heap.size (u ^ (F + f)) (d ^ (F + f)) w8) := by show Fc _ _ _ _; rw [HVE.out.1, HVE.out.2]; exact HG7.out.at hb8 hG7
              have HL8 : Hid (Fc w3.heap.size p q1 w8) := HL7.out.at hb8 (by omega)
              have hbl8 : Below w5.heap.size w5 w8 := bt hbl7 hb8
              go_wp2
              go_roundw
              case rel => exact ⟨i + 1, F + f, k - f, by go_num, h1, ⟨HFF.out.2.1, HFF.out.2.2, HG8.out⟩, HL8, by omega, hbl8⟩
              case measure => simp [intOf]; omega
          · have hbw : Below w.heap.size w wr := bt hbw5 hbl
            go_wp2
            go_ret
            exact ⟨rfl, hbw⟩
      · have hne : (er != 0) = true := by simpa using her
        have hne2 : (er == 0) = false := by simpa using her
        go_wp2
        go_ret
        exact ⟨rfl, hbc⟩
    · have hne : (n != 1) = true := by simpa using hn1
      have hne2 : (n == 1) = false := by simpa using hn1
      go_wp2
      go_ret
      exact ⟨rfl, hbw2⟩
  · have hne : (ea != 0) = true := by simpa using he
    have hne2 : (ea == 0) = false := by simpa using he
    go_wp2
    go_ret
    exact ⟨rfl, hbw2⟩
end Go.Proofs.YtlndlpjadajelaaGreat
