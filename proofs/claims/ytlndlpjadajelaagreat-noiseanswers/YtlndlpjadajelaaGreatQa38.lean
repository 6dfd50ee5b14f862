import Derived.Test.YtlndlpjadajelaaGreatQa37
import Derived.Test.YtlndlpjadajelaaGreatQa35
import Derived.Deep.RegionHeld3
import Derived.Deep.RegionLaw
import Derived.Test.YtlndlpjadajelaaGreatQa30
namespace Go.Proofs.YtlndlpjadajelaaGreat.K
open Go.RowKit Go.Proofs.YtlndlpjadajelaaGreat.K.Ds

/-- what Type says -/
def typ (l : List Col) (q : Qu) : Except Int Bnd := if colE l = 0 then bnd l 1 q else .error (colE l)

set_option maxHeartbeats 1000000 in
set_option maxRecDepth 100000 in
theorem typed_any (l : List Col) (q : Qu) (w : World) (B : Nat) (lv v0 v1 v2 v3 v4 v5 : Value) (r : Except Int Bnd) (hB : B ≤ w.heap.size) (hp : Cols w B lv l) (hq : Qm w B q v0 v1 v2 v3 v4 v5) (hr : typ l q = r) :
    Calls Tryz.prog 62 #[lv, .agg #[v0, v1, v2, v3, v4, v5]] w fun e w' => e = endB r ∧ Below w.heap.size w w' := by
  have HP : Hid (Cols w B lv l) := hp
  have HQ : Hid (Qm w B q v0 v1 v2 v3 v4 v5) := hq
  have HR : Hid (typ l q = r) := hr
  obtain ⟨la, lc, rfl, _⟩ := hp.slice
  obtain ⟨kk, kc, kl, kh, ka, kn', kd, kb, km, kp, rfl, rfl, rfl, rfl, rfl, rfl⟩ := hq.shape
  obtain ⟨ec, hec⟩ : ∃ ec, colE l = ec := ⟨_, rfl⟩
  have bq := Bq.new w (.int .i64 kk) (.string kc) (.int .i64 kl) (.int .i64 kh) (.slice ka kn' kd) (.slice kb km kp)
  have hb0 : Below w.heap.size w ((w.alloc (.cells #[.int .i64 kk, .string kc, .int .i64 kl, .int .i64 kh, .slice ka kn' kd, .slice kb km kp] 31)).alloc (.cells #[.int .i64 0, .int .i64 0, .int .i64 0] 61)) := bal (ba _ _) _
  have k1 := columns_any B _ l _ (Nat.le_trans hB hb0.size) (hp.at hB hb0) ec hec
  have HEC : Hid (colE l = ec) := hec
  clear hp hq hr hec
  go_enter Tryz.func62, Tryz.ntmps62
  go_wp2_with fail
  refine k1.mono ?_
  rintro e w1 ⟨rfl, hb1⟩
  clear k1
  have hbw : Below w.heap.size w w1 := bt hb0 hb1
  have HB1 : Hid (Bq w1 w.heap.size (.int .i64 kk) (.string kc) (.int .i64 kl) (.int .i64 kh) (.slice ka kn' kd) (.slice kb km kp)) := bq.at hb1
  clear bq hb0 hb1
  by_cases he : ec = 0
  · subst he
    have HT : Hid (bnd l 1 q = r) := by have := HR.out; rwa [typ, if_pos HEC.out] at this
    have hsz := hbw.size
    have k2 := bound_any l (colE_ok HEC.out).2.2.1 q 1 w1 B (.slice la l.length lc) _ _ _ _ _ _ r (by decide) (by omega) (HP.out.at hB hbw) (HQ.out.at hB hbw) HT.out
    have m0 := HB1.out.a0.c
    have m1 := HB1.out.a1.c
    have m2 := HB1.out.a2.c
    have m3 := HB1.out.a3.c
    have m4 := HB1.out.a4.c
    have m5 := HB1.out.a5.c
    go_wp2_with fail
    refine (check_ok w1).mono ?_
    rintro e w2 ⟨rfl, rfl⟩
    go_wp2_with fail
    refine k2.mono ?_
    rintro e w3 ⟨he, hb3⟩
    clear k2 m0 m1 m2 m3 m4 m5
    have HB3 : Hid (Bq w3 w.heap.size (.int .i64 kk) (.string kc) (.int .i64 kl) (.int .i64 kh) (.slice ka kn' kd) (.slice kb km kp)) := HB1.out.at hb3
    have hbw3 : Below w.heap.size w w3 := bt hbw hb3
    clear HB1 hb3
    cases r with
    | error er =>
      obtain rfl : e = .panicked (chn er) := he
      go_wp2
      exact ⟨rfl, rfl, hbw3⟩
    | ok bb =>
      obtain ⟨b1, b2, b3⟩ := bb
      obtain rfl : e = .returned (.agg #[.int .i64 b1, .int .i64 b2, .int .i64 b3]) := he
      have s0 := HB3.out.e0.c
      have s1 := HB3.out.e1.c
      have s2 := HB3.out.e2.c
      have f0 := HB3.out.e0.f
      have f1 := HB3.out.e1.f
      have f2 := HB3.out.e2.f
      go_wp2
      exact bodyPost_ret (v := .agg #[.int .i64 b1, .int .i64 b2, .int .i64 b3]) (by simp [results, Tryz.results62, go_sem, s0, s1, s2]) rfl ⟨rfl, bs3 hbw3 (Nat.le_succ _) _ _ _⟩
  · obtain rfl : Except.error ec = r := by rw [← HR.out, typ, HEC.out, if_neg he]
    go_wp2_with fail
    refine (check_no ec he w1).mono ?_
    rintro e w2 ⟨rfl, rfl⟩
    go_wp2
    exact ⟨rfl, rfl, hbw⟩

/-- a question in a box -/
structure Bx (W : World) (N : Nat) (v0 v1 v2 v3 v4 v5 : Value) : Prop where
  a0 : Cl W N 0 v0
  a1 : Cl W N 1 v1
  a2 : Cl W N 2 v2
  a3 : Cl W N 3 v3
  a4 : Cl W N 4 v4
  a5 : Cl W N 5 v5
theorem Bx.at {W W' : World} {N : Nat} {v0 v1 v2 v3 v4 v5 : Value} (h : Bx W N v0 v1 v2 v3 v4 v5) (hb : Below W.heap.size W W') : Bx W' N v0 v1 v2 v3 v4 v5 := ⟨h.a0.at hb, h.a1.at hb, h.a2.at hb, h.a3.at hb, h.a4.at hb, h.a5.at hb⟩
theorem Bx.new (W : World) (N : Nat) (hN : N = W.heap.size) (v0 v1 v2 v3 v4 v5 : Value) : Bx (W.alloc (.cells #[v0, v1, v2, v3, v4, v5] 31)) N v0 v1 v2 v3 v4 v5 := by
  constructor <;> exact Cl.new _ 31 _ _ hN rfl

set_option maxHeartbeats 1000000 in
set_option maxRecDepth 100000 in
theorem type1_any (l : List Col) (q : Qu) (w : World) (B L N : Nat) (lv v0 v1 v2 v3 v4 v5 : Value) (r : Except Int Bnd) (hB : B ≤ w.heap.size) (hp : Cols w B lv l) (hq : Qm w B q v0 v1 v2 v3 v4 v5) (hr : typ l q = r) (hL : Cl w L 0 lv) (hN : Bx w N v0 v1 v2 v3 v4 v5) :
    Calls Tryz.prog 61 #[.pointer (some ⟨L, 0, none⟩), .pointer (some ⟨N, 0, none⟩)] w fun e w' => e = endB r ∧ Below w.heap.size w w' := by
  have hb0 := ba w (.cells #[.int .i64 0, .int .i64 0, .int .i64 0] 61)
  have k1 := typed_any l q (w.alloc (.cells #[.int .i64 0, .int .i64 0, .int .i64 0] 61)) B lv v0 v1 v2 v3 v4 v5 r (Nat.le_trans hB hb0.size) (hp.at hB hb0) (hq.at hB hb0) hr
  obtain ⟨la, lc, rfl, _⟩ := hp.slice
  obtain ⟨kk, kc, kl, kh, ka, kn', kd, kb, km, kp, rfl, rfl, rfl, rfl, rfl, rfl⟩ := hq.shape
  have hL2 := hL.at hb0
  have hN2 := hN.at hb0
  have m0 := hN2.a0.c
  have m1 := hN2.a1.c
  have m2 := hN2.a2.c
  have m3 := hN2.a3.c
  have m4 := hN2.a4.c
  have m5 := hN2.a5.c
  have m6 := hL2.c
  clear hp hq hr hL hN hL2 hN2
  go_enter Tryz.func61, Tryz.ntmps61
  go_wp2_with fail
  refine k1.mono ?_
  rintro e w1 ⟨he, hb1⟩
  clear k1 m0 m1 m2 m3 m4 m5 m6
  have a0 := (Cl.new (w := w) #[.int .i64 0, .int .i64 0, .int .i64 0] 61 0 _ rfl rfl).at hb1
  have a1 := (Cl.new (w := w) #[.int .i64 0, .int .i64 0, .int .i64 0] 61 1 _ rfl rfl).at hb1
  have a2 := (Cl.new (w := w) #[.int .i64 0, .int .i64 0, .int .i64 0] 61 2 _ rfl rfl).at hb1
  have hbw : Below w.heap.size w w1 := bt hb0 hb1
  clear hb0 hb1
  have s0 := a0.c
  have s1 := a1.c
  have s2 := a2.c
  have f0 := a0.f
  have f1 := a1.f
  have f2 := a2.f
  cases r with
  | error er =>
    obtain rfl : e = .panicked (chn er) := he
    go_wp2
    exact ⟨rfl, rfl, hbw⟩
  | ok bb =>
    obtain ⟨b1, b2, b3⟩ := bb
    obtain rfl : e = .returned (.agg #[.int .i64 b1, .int .i64 b2, .int .i64 b3]) := he
    go_wp2
    exact bodyPost_ret (v := .agg #[.int .i64 b1, .int .i64 b2, .int .i64 b3]) (by simp [results, Tryz.results61, go_sem, s0, s1, s2]) rfl ⟨rfl, bs3 hbw (Nat.le_refl _) _ _ _⟩

/-- what Type answers: a bound and what is wrong -/
def typV : Except Int Bnd → Bnd × Int
  | .error e => ((0, 0, 0), e)
  | .ok b => (b, 0)
set_option maxHeartbeats 1000000 in
set_option maxRecDepth 100000 in
theorem type_any (l : List Col) (q : Qu) (w : World) (B : Nat) (lv v0 v1 v2 v3 v4 v5 : Value) (b1 b2 b3 er : Int) (hB : B ≤ w.heap.size) (hp : Cols w B lv l) (hq : Qm w B q v0 v1 v2 v3 v4 v5) (hr : typV (typ l q) = ((b1, b2, b3), er)) :
    Calls Tryz.prog 24 #[lv, .agg #[v0, v1, v2, v3, v4, v5]] w fun e w' => e = .returned (.tuple #[.agg #[.int .i64 b1, .int .i64 b2, .int .i64 b3], .int .i64 er]) ∧ Below w.heap.size w w' := by
  have hb0 : Below w.heap.size w (((w.alloc (.cells #[lv] 24)).alloc (.cells #[v0, v1, v2, v3, v4, v5] 31)).alloc (.cells #[.int .i64 0, .int .i64 0, .int .i64 0] 61)) := bal (bal (ba _ _) _) _
  have hL : Cl (((w.alloc (.cells #[lv] 24)).alloc (.cells #[v0, v1, v2, v3, v4, v5] 31)).alloc (.cells #[.int .i64 0, .int .i64 0, .int .i64 0] 61)) w.heap.size 0 lv := ((Cl.new _ 24 _ _ rfl rfl).at (ba _ _)).at (ba _ _)
  have hN : Bx (((w.alloc (.cells #[lv] 24)).alloc (.cells #[v0, v1, v2, v3, v4, v5] 31)).alloc (.cells #[.int .i64 0, .int .i64 0, .int .i64 0] 61)) (w.heap.size + 1) v0 v1 v2 v3 v4 v5 := (Bx.new _ _ (by simp) _ _ _ _ _ _).at (ba _ _)
  have kc : Calls Tryz.prog 60 #[.func (.func 61) #[] #[.pointer (some ⟨w.heap.size, 0, none⟩), .pointer (some ⟨w.heap.size + 1, 0, none⟩)]] (((w.alloc (.cells #[lv] 24)).alloc (.cells #[v0, v1, v2, v3, v4, v5] 31)).alloc (.cells #[.int .i64 0, .int .i64 0, .int .i64 0] 61)) fun e w' => e = .returned (.tuple #[.agg #[.int .i64 b1, .int .i64 b2, .int .i64 b3], .int .i64 er]) ∧ Below (((w.alloc (.cells #[lv] 24)).alloc (.cells #[v0, v1, v2, v3, v4, v5] 31)).alloc (.cells #[.int .i64 0, .int .i64 0, .int .i64 0] 61)).heap.size (((w.alloc (.cells #[lv] 24)).alloc (.cells #[v0, v1, v2, v3, v4, v5] 31)).alloc (.cells #[.int .i64 0, .int .i64 0, .int .i64 0] 61)) w' := by
    generalize hW : (((w.alloc (.cells #[lv] 24)).alloc (.cells #[v0, v1, v2, v3, v4, v5] 31)).alloc (.cells #[.int .i64 0, .int .i64 0, .int .i64 0] 61)) = W at *
    have inner : ∀ r, typ l q = r → ∀ W', Below W.heap.size W W' → W.heap.size + 2 ≤ W'.heap.size → Calls Tryz.prog 61 #[.pointer (some ⟨w.heap.size, 0, none⟩), .pointer (some ⟨w.heap.size + 1, 0, none⟩)] W' fun e w' => e = endB r ∧ Below W'.heap.size W' w' := by
      intro r hr W' hW' hs
      have hsz := hb0.size
      exact type1_any l q W' B _ _ lv v0 v1 v2 v3 v4 v5 r (by omega) ((hp.at hB hb0).at (by omega) hW') ((hq.at hB hb0).at (by omega) hW') hr (hL.at hW') (hN.at hW')
    cases ht : typ l q with
    | error e1 =>
      rw [ht] at hr
      simp only [typV, Prod.mk.injEq] at hr
      obtain ⟨⟨rfl, rfl, rfl⟩, rfl⟩ := hr
      exact caughtB_no _ e1 W (inner _ ht)
    | ok bb =>
      obtain ⟨c1, c2, c3⟩ := bb
      rw [ht] at hr
      simp only [typV, Prod.mk.injEq] at hr
      obtain ⟨⟨rfl, rfl, rfl⟩, rfl⟩ := hr
      exact caughtB_ok _ c1 c2 c3 W (inner _ ht)
  obtain ⟨la, lc, rfl, _⟩ := hp.slice
  obtain ⟨kk, kc', kl, kh, ka, kn', kd, kb, km, kp, rfl, rfl, rfl, rfl, rfl, rfl⟩ := hq.shape
  have hmf := hmf
  clear hp hq hr hL hN
  go_enter Tryz.func24, Tryz.ntmps24
  go_wp2_with fail
  refine kc.mono ?_
  rintro e w1 ⟨rfl, hb1⟩
  clear kc
  have a0 := (Cl.new (w := ((w.alloc (.cells #[.slice la l.length lc] 24)).alloc (.cells #[.int .i64 kk, .string kc', .int .i64 kl, .int .i64 kh, .slice ka kn' kd, .slice kb km kp] 31))) (N := w.heap.size + 1 + 1) #[.int .i64 0, .int .i64 0, .int .i64 0] 61 0 _ (by simp) rfl).at hb1
  have a1 := (Cl.new (w := ((w.alloc (.cells #[.slice la l.length lc] 24)).alloc (.cells #[.int .i64 kk, .string kc', .int .i64 kl, .int .i64 kh, .slice ka kn' kd, .slice kb km kp] 31))) (N := w.heap.size + 1 + 1) #[.int .i64 0, .int .i64 0, .int .i64 0] 61 1 _ (by simp) rfl).at hb1
  have a2 := (Cl.new (w := ((w.alloc (.cells #[.slice la l.length lc] 24)).alloc (.cells #[.int .i64 kk, .string kc', .int .i64 kl, .int .i64 kh, .slice ka kn' kd, .slice kb km kp] 31))) (N := w.heap.size + 1 + 1) #[.int .i64 0, .int .i64 0, .int .i64 0] 61 2 _ (by simp) rfl).at hb1
  have hbw : Below w.heap.size w w1 := bt hb0 hb1
  clear hb0 hb1
  have s0 := a0.c
  have s1 := a1.c
  have s2 := a2.c
  have f0 := a0.f
  have f1 := a1.f
  have f2 := a2.f
  go_wp2
  exact bodyPost_ret (v := .tuple #[.agg #[.int .i64 b1, .int .i64 b2, .int .i64 b3], .int .i64 er]) (by simp [results, Tryz.results24, go_sem, s0, s1, s2]) rfl ⟨rfl, bs3 hbw (by omega) _ _ _⟩
end Go.Proofs.YtlndlpjadajelaaGreat.K

namespace Go.Proofs.YtlndlpjadajelaaGreat.K
open Go.RowKit Go.Proofs.YtlndlpjadajelaaGreat.K.Ds

theorem AnsP.up {w W : World} {xs : List Int} {e : Ending} {w' : World} (h : AnsP W xs e w') (hb : Below w.heap.size w W) : AnsP w xs e w' := by
  obtain ⟨g, c, he, ha, hbw⟩ := h
  exact ⟨g, c, he, ha.mono hb.size, bt hb hbw⟩
theorem clt {w : World} {a : Addr} {v : Value} (h : w.cell? a = some v) : a.block < w.heap.size := by
  unfold World.cell? at h
  split at h
  · rename_i hb; exact (Array.getElem?_eq_some_iff.1 hb).1
  · cases h
theorem ansP_drew {w : World} {xs : List Int} {e : Ending} {w' : World} (h : AnsP w.drew xs e w') : AnsP w xs e w' := AnsP.up h (Below.refl _ _).drew

set_option maxHeartbeats 2000000 in
set_option maxRecDepth 100000 in
theorem kid0_any (N N1 : Nat) (cv rv : Value) (b o n cap : Nat) (hn : 0 < n) (xs : List Int) (w : World) (t0 : w.cell? ⟨N, 0, none⟩ = some cv) (t1 : w.cell? ⟨N, 1, none⟩ = some rv) (t5 : w.cell? ⟨N1, 5, none⟩ = some (.slice (some ⟨b, o, none⟩) n cap)) (B : Nat) (x : Qu) (u0 u1 u2 u3 u4 u5 : Value) (hu : At6 w b (o) u0 u1 u2 u3 u4 u5) (hq : Qm w B x u0 u1 u2 u3 u4 u5) (l : List Col) (ts : List Rw) (hp : Cols w B cv l) (hr : Rws w B rv ts)
    (kc : Calls Tryz.prog 73 #[.agg #[cv, rv], .agg #[u0, u1, u2, u3, u4, u5]] w.drew (AnsP w.drew xs)) :
    Calls Tryz.prog 127 #[.int .i64 0, .pointer (some ⟨N, 0, none⟩), .pointer (some ⟨N1, 0, none⟩)] w (AnsP w xs) := by
  obtain ⟨la, lc, rfl, _⟩ := hp.slice
  obtain ⟨ra, rc, rfl, _⟩ := hr.slice
  obtain ⟨kk, kc', kl, kh, ka, kn', kd, kb, km, kp, rfl, rfl, rfl, rfl, rfl, rfl⟩ := hq.shape
  obtain ⟨c0, c1, c2, c3, c4, c5⟩ := hu
  have lN : N < w.heap.size := clt t0
  have lN1 : N1 < w.heap.size := clt t5
  have lb : b < w.heap.size := clt c0
  have hn1 : ((0 : Int)) < (n : Int) := by omega
  have hn2 : (0 : Int) ≤ 0 := by decide
  clear hp hr hq
  go_enter Tryz.func127, Tryz.ntmps127
  go_wp2
  go_region_held3 (fun w' => w'.cell? ⟨N, 0, none⟩ = some (.slice la l.length lc) ∧ w'.cell? ⟨N, 1, none⟩ = some (.slice ra ts.length rc) ∧ w'.cell? ⟨N1, 5, none⟩ = some (.slice (some ⟨b, o, none⟩) n cap) ∧ w'.cell? ⟨b, o, none⟩ = some (.int .i64 kk) ∧ w'.cell? ⟨b, o + 1, none⟩ = some (.string kc') ∧ w'.cell? ⟨b, o + 2, none⟩ = some (.int .i64 kl) ∧ w'.cell? ⟨b, o + 3, none⟩ = some (.int .i64 kh) ∧ w'.cell? ⟨b, o + 4, none⟩ = some (.slice ka kn' kd) ∧ w'.cell? ⟨b, o + 5, none⟩ = some (.slice kb km kp)) (first | assumption | (simp [go_sem, *]; done)) ((go_at_call 73; refine kc.mono ?_; rintro x3 w3 hA; obtain ⟨g3, c3', rfl, hA3, hb3⟩ := hA; have z0 := (hb3.cell (p := ⟨N, 0, none⟩) lN).trans t0; have z1 := (hb3.cell (p := ⟨N, 1, none⟩) lN).trans t1; have z2 := (hb3.cell (p := ⟨N1, 5, none⟩) lN1).trans t5; have y0 := (hb3.cell (p := ⟨b, o, none⟩) lb).trans c0; have y1 := (hb3.cell (p := ⟨b, o + 1, none⟩) lb).trans c1; have y2 := (hb3.cell (p := ⟨b, o + 2, none⟩) lb).trans c2; have y3 := (hb3.cell (p := ⟨b, o + 3, none⟩) lb).trans c3; have y4 := (hb3.cell (p := ⟨b, o + 4, none⟩) lb).trans c4; have y5 := (hb3.cell (p := ⟨b, o + 5, none⟩) lb).trans c5))
  go_wp2
  go_ret
  exact ansP_drew ⟨g3, c3', rfl, hA3, hb3⟩
set_option maxHeartbeats 2000000 in
set_option maxRecDepth 100000 in
theorem kid1_any (N N1 : Nat) (cv rv : Value) (b o n cap : Nat) (hn : 1 < n) (xs : List Int) (w : World) (t0 : w.cell? ⟨N, 0, none⟩ = some cv) (t1 : w.cell? ⟨N, 1, none⟩ = some rv) (t5 : w.cell? ⟨N1, 5, none⟩ = some (.slice (some ⟨b, o, none⟩) n cap)) (B : Nat) (x : Qu) (u0 u1 u2 u3 u4 u5 : Value) (hu : At6 w b (o + 6) u0 u1 u2 u3 u4 u5) (hq : Qm w B x u0 u1 u2 u3 u4 u5) (l : List Col) (ts : List Rw) (hp : Cols w B cv l) (hr : Rws w B rv ts)
    (kc : Calls Tryz.prog 73 #[.agg #[cv, rv], .agg #[u0, u1, u2, u3, u4, u5]] w.drew (AnsP w.drew xs)) :
    Calls Tryz.prog 127 #[.int .i64 1, .pointer (some ⟨N, 0, none⟩), .pointer (some ⟨N1, 0, none⟩)] w (AnsP w xs) := by
  obtain ⟨la, lc, rfl, _⟩ := hp.slice
  obtain ⟨ra, rc, rfl, _⟩ := hr.slice
  obtain ⟨kk, kc', kl, kh, ka, kn', kd, kb, km, kp, rfl, rfl, rfl, rfl, rfl, rfl⟩ := hq.shape
  obtain ⟨c0, c1, c2, c3, c4, c5⟩ := hu
  have lN : N < w.heap.size := clt t0
  have lN1 : N1 < w.heap.size := clt t5
  have lb : b < w.heap.size := clt c0
  have hn1 : ((1 : Int)) < (n : Int) := by omega
  have hn2 : (0 : Int) ≤ 1 := by decide
  clear hp hr hq
  go_enter Tryz.func127, Tryz.ntmps127
  go_wp2
  go_region_held3 (fun w' => w'.cell? ⟨N, 0, none⟩ = some (.slice la l.length lc) ∧ w'.cell? ⟨N, 1, none⟩ = some (.slice ra ts.length rc) ∧ w'.cell? ⟨N1, 5, none⟩ = some (.slice (some ⟨b, o, none⟩) n cap) ∧ w'.cell? ⟨b, o + 6, none⟩ = some (.int .i64 kk) ∧ w'.cell? ⟨b, o + 6 + 1, none⟩ = some (.string kc') ∧ w'.cell? ⟨b, o + 6 + 2, none⟩ = some (.int .i64 kl) ∧ w'.cell? ⟨b, o + 6 + 3, none⟩ = some (.int .i64 kh) ∧ w'.cell? ⟨b, o + 6 + 4, none⟩ = some (.slice ka kn' kd) ∧ w'.cell? ⟨b, o + 6 + 5, none⟩ = some (.slice kb km kp)) (first | assumption | (simp [go_sem, *]; done)) ((go_at_call 73; refine kc.mono ?_; rintro x3 w3 hA; obtain ⟨g3, c3', rfl, hA3, hb3⟩ := hA; have z0 := (hb3.cell (p := ⟨N, 0, none⟩) lN).trans t0; have z1 := (hb3.cell (p := ⟨N, 1, none⟩) lN).trans t1; have z2 := (hb3.cell (p := ⟨N1, 5, none⟩) lN1).trans t5; have y0 := (hb3.cell (p := ⟨b, o + 6, none⟩) lb).trans c0; have y1 := (hb3.cell (p := ⟨b, o + 6 + 1, none⟩) lb).trans c1; have y2 := (hb3.cell (p := ⟨b, o + 6 + 2, none⟩) lb).trans c2; have y3 := (hb3.cell (p := ⟨b, o + 6 + 3, none⟩) lb).trans c3; have y4 := (hb3.cell (p := ⟨b, o + 6 + 4, none⟩) lb).trans c4; have y5 := (hb3.cell (p := ⟨b, o + 6 + 5, none⟩) lb).trans c5))
  go_wp2
  go_ret
  exact ansP_drew ⟨g3, c3', rfl, hA3, hb3⟩
end Go.Proofs.YtlndlpjadajelaaGreat.K

namespace Go.Proofs.YtlndlpjadajelaaGreat.K
open Go.RowKit Go.Proofs.YtlndlpjadajelaaGreat.K.Ds

theorem gb_refl (w : World) (r : Option Nat) : w.grownBy w r := World.grownBy.refl w r
theorem gb_trans {a b c : World} {r : Option Nat} (h : a.grownBy b r) (k : b.grownBy c r) : a.grownBy c r :=
  ⟨k.os.trans h.os, k.tape.trans h.tape, k.output.trans h.output, Nat.le_trans h.size k.size, fun i hi hr => (k.block i (Nat.lt_of_lt_of_le hi h.size) hr).trans (h.block i hi hr)⟩
theorem gb_alloc {a b : World} {r : Option Nat} (h : a.grownBy b r) (o : Obj) : a.grownBy (b.alloc o) r := gb_trans h (World.grownBy_alloc b o r)
theorem gb_drew {a b : World} {r : Option Nat} (h : a.grownBy b r) : a.grownBy b.drew r := ⟨h.os, h.tape, h.output, h.size, h.block⟩
theorem gb_set {a b : World} {E : Nat} (h : a.grownBy b (some E)) (k : Nat) (u : Value) : a.grownBy (b.setCell ⟨E, k, none⟩ u) (some E) :=
  gb_trans h ⟨rfl, rfl, rfl, by simp [World.setCell], fun i _ hr => Below.heap_setCell _ _ _ _ (by intro e; exact hr (by rw [e]))⟩
theorem gb_below {a b : World} {E : Nat} (h : Below a.heap.size a b) : a.grownBy b (some E) := ⟨h.os, h.tape, h.output, h.size, fun k hk _ => h.block k hk⟩
theorem below_gb {a b : World} {E B : Nat} (h : a.grownBy b (some E)) (hB : B ≤ E) (hE : B ≤ a.heap.size) : Below B a b := ⟨h.os, h.tape, h.output, h.size, fun k hk => h.block k (by omega) (by simp; omega)⟩
/-- what grows a row from a's end on, or makes memory, leaves all of a but E as it was -/
theorem gb_grow {a b c : World} {E : Nat} {row : Option Nat} (h : a.grownBy b (some E)) (k : b.grownBy c row) (hr : ∀ g, row = some g → a.heap.size ≤ g) : a.grownBy c (some E) :=
  ⟨k.os.trans h.os, k.tape.trans h.tape, k.output.trans h.output, Nat.le_trans h.size k.size, fun i hi hne => (k.block i (Nat.lt_of_lt_of_le hi h.size) (fun e => by have := hr i e.symm; omega)).trans (h.block i hi hne)⟩

/-- a block with two cells -/
structure TwoB (w : World) (R : Nat) (x y : Value) : Prop where
  c0 : w.cell? ⟨R, 0, none⟩ = some x
  c1 : w.cell? ⟨R, 1, none⟩ = some y
  f0 : w.frozen? ⟨R, 0, none⟩ = false
  f1 : w.frozen? ⟨R, 1, none⟩ = false
  lt : R < w.heap.size
theorem TwoB.below {w w' : World} {R : Nat} {x y : Value} (h : TwoB w R x y) (b : Below w.heap.size w w') : TwoB w' R x y :=
  ⟨(b.cell (p := ⟨R, 0, none⟩) h.lt).trans h.c0, (b.cell (p := ⟨R, 1, none⟩) h.lt).trans h.c1, (b.frozen (p := ⟨R, 0, none⟩) h.lt).trans h.f0, (b.frozen (p := ⟨R, 1, none⟩) h.lt).trans h.f1, Nat.lt_of_lt_of_le h.lt b.size⟩
theorem TwoB.gb {w w' : World} {R : Nat} {row : Option Nat} {x y : Value} (h : TwoB w R x y) (b : w.grownBy w' row) (hne : row ≠ some R) : TwoB w' R x y := by
  have hk : w'.heap[R]? = w.heap[R]? := b.block R h.lt (fun e => hne e.symm)
  exact ⟨(World.cell?_of_block (w := w) (a := ⟨R, 0, none⟩) hk).trans h.c0, (World.cell?_of_block (w := w) (a := ⟨R, 1, none⟩) hk).trans h.c1, (World.frozen?_of_block (w := w) (a := ⟨R, 0, none⟩) hk).trans h.f0, (World.frozen?_of_block (w := w) (a := ⟨R, 1, none⟩) hk).trans h.f1, Nat.lt_of_lt_of_le h.lt b.size⟩
theorem TwoB.new (w : World) (x y : Value) (t : TypeId) (N : Nat) (hN : N = w.heap.size) : TwoB (w.alloc (.cells #[x, y] t)) N x y :=
  ⟨nc _ _ 0 _ hN rfl, nc _ _ 1 _ hN rfl, nf _ _ 0 hN, nf _ _ 1 hN, by simp; omega⟩
theorem TwoB.set1 {w : World} {R : Nat} {x y : Value} (h : TwoB w R x y) (u : Value) : TwoB (w.setCell ⟨R, 1, none⟩ u) R x u :=
  ⟨(sc_other (by simp)).trans h.c0, sc_same h.c1, sc_frozen.trans h.f0, sc_frozen.trans h.f1, by simpa using h.lt⟩
theorem TwoB.put {w : World} {R : Nat} {x y : Value} (h : TwoB w R x y) (u v : Value) : TwoB ((w.setCell ⟨R, 0, none⟩ u).setCell ⟨R, 1, none⟩ v) R u v := by
  have h0 : TwoB (w.setCell ⟨R, 0, none⟩ u) R u y := ⟨sc_same h.c0, (sc_other (by simp)).trans h.c1, sc_frozen.trans h.f0, sc_frozen.trans h.f1, by simpa using h.lt⟩
  exact h0.set1 v
theorem TwoB.other {w : World} {R : Nat} {x y : Value} (h : TwoB w R x y) {p : Addr} (hp : p.block ≠ R) (u : Value) : TwoB (w.setCell p u) R x y :=
  ⟨(sc_other (by rintro rfl; exact hp rfl)).trans h.c0, (sc_other (by rintro rfl; exact hp rfl)).trans h.c1, sc_frozen.trans h.f0, sc_frozen.trans h.f1, by simpa using h.lt⟩

theorem Ints.setb {w : World} {B m b k : Nat} {v : Value} {xs : List Int} (h : Ints w B m v xs) (hs : ∃ b' o n c, v = .slice (some ⟨b', o, none⟩) n c ∧ b < b') (u : Value) : Ints (w.setCell ⟨b, k, none⟩ u) B m v xs := by
  obtain ⟨a, c, hv, hc, hl, hx⟩ := h
  obtain ⟨b1, o1, n1, c1, hv1, hb1⟩ := hs
  refine ⟨a, c, hv, hc, hl, fun hne => ?_⟩
  obtain ⟨b', o', ha, hB, hn, hcell⟩ := hx hne
  refine ⟨b', o', ha, hB, hn, fun i x hi => ?_⟩
  rw [sc_other]
  · exact hcell i x hi
  · rw [hv, ha] at hv1
    simp only [Value.slice.injEq, Option.some.injEq, Addr.mk.injEq] at hv1
    intro e
    simp only [Addr.mk.injEq] at e
    have := hv1.1.1
    omega
/-- a store into a block below -/
theorem Rwr.set {w : World} {lo T k : Nat} {v : Value} {ts : List Rw} (h : Rwr w lo v ts) (hT : T < lo) (hs : Som (T + 1) ts) (u : Value) : Rwr (w.setCell ⟨T, k, none⟩ u) lo v ts := by
  refine ⟨ownsRow_setCell_below h.1 (a := ⟨T, k, none⟩) hT u, fun t ht => ?_⟩
  obtain ⟨m, h1, h2⟩ := h.2 t ht
  obtain ⟨b, o, n, c, e, hb⟩ := hs t ht
  exact ⟨m, by have := h1.setb (b := T) (k := k) ⟨b, o, n, c, e, hb⟩ u; simpa [World.setCell] using this, h2⟩

/-- what FromCells answers -/
def FromP (lc : List Col) (rs : List (List Int)) (er : Int) (w : World) (e : Ending) (w' : World) : Prop :=
  ∃ cv rv ts, e = .returned (.tuple #[.agg #[cv, rv], .int .i64 er]) ∧ Cols w' w'.heap.size cv lc ∧ Rws w' w'.heap.size rv ts ∧ rr ts = rs ∧ Below w.heap.size w w'
theorem cols_nil (w : World) (B : Nat) : Cols w B (.slice none 0 0) [] := ⟨none, 0, rfl, Nat.le_refl _, by simp, by simp, fun h => absurd rfl h⟩
theorem froE_no {l : List Col} {xs : List Int} {er : Int} (h : froE l xs = er) (he : er ≠ 0) : froC l xs = [] ∧ froT l xs = [] := by
  rw [froC, froT, h, if_neg he, if_neg he]; exact ⟨rfl, rfl⟩

end Go.Proofs.YtlndlpjadajelaaGreat.K
