import Derived.Test.YtlndlpjadajelaaGreatQl35
import Derived.Test.YtlndlpjadajelaaGreatQl34
import Derived.Deep.RegionHeld3
import Derived.Deep.RegionLaw
import Derived.Test.YtlndlpjadajelaaGreatQl28
namespace Go.Proofs.YtlndlpjadajelaaGreat.K
open Go.RowKit Go.Proofs.YtlndlpjadajelaaGreat.K.Ds

/-- what Type says -/
def typ (l : List Col) (q : Qu) : Except Int Bnd := if colE l = 0 then bnd l 1 q else .error (colE l)

set_option maxHeartbeats 1000000 in
set_option maxRecDepth 100000 in
theorem typed_any (l : List Col) (q : Qu) (w : World) (B : Nat) (lv v0 v1 v2 v3 v4 v5 : Value) (r : Except Int Bnd) (hB : B ≤ w.heap.size) (hp : Cols w B lv l) (hq : Qm w B q v0 v1 v2 v3 v4 v5) (hr : typ l q = r) :
    Calls Tryz.prog 62 #[lv, .agg #[v0, v1, v2, v3, v4, v5]] w fun e w' => e = endB r ∧ Below w.heap.size w w' := by
  have HP : Hid (Cols w B lv l) := hp
  have HQ : Hid (Qm w B q v0 v1 v2 v3 v4 v5) := hq
  have HR : Hid (typ l q = r) := hr
  obtain ⟨la, lc, rfl, _⟩ := hp.slice
  obtain ⟨kk, kc, kl, kh, ka, kn', kd, kb, km, kp, rfl, rfl, rfl, rfl, rfl, rfl⟩ := hq.shape
  obtain ⟨ec, hec⟩ : ∃ ec, colE l = ec := ⟨_, rfl⟩
  have bq := Bq.new w (.int .i64 kk) (.string kc) (.int .i64 kl) (.int .i64 kh) (.slice ka kn' kd) (.slice kb km kp)
  have hb0 : Below w.heap.size w ((w.alloc (.cells #[.int .i64 kk, .string kc, .int .i64 kl, .int .i64 kh, .slice ka kn' kd, .slice kb km kp] 31)).alloc (.cells #[.int .i64 0, .int .i64 0, .int .i64 0] 61)) := bal (ba _ _) _
  have k1 := columns_any B _ l _ (Nat.le_trans hB hb0.size) (hp.at hB hb0) ec hec
  have HEC : Hid (colE l = ec) := hec
  clear hp hq hr hec
  go_enter Tryz.func62, Tryz.ntmps62
  go_wp2_with fail
  refine k1.mono ?_
  rintro e w1 ⟨rfl, hb1⟩
  clear k1
  have hbw : Below w.heap.size w w1 := bt hb0 hb1
  have HB1 : Hid (Bq w1 w.heap.size (.int .i64 kk) (.string kc) (.int .i64 kl) (.int .i64 kh) (.slice ka kn' kd) (.slice kb km kp)) := bq.at hb1
  clear bq hb0 hb1
  by_cases he : ec = 0
  · subst he
    have HT : Hid (bnd l 1 q = r) := by have := HR.out; rwa [typ, if_pos HEC.out] at this
    have hsz := hbw.size
    have k2 := bound_any l (colE_ok HEC.out).2.2.1 q 1 w1 B (.slice la l.length lc) _ _ _ _ _ _ r (by decide) (by omega) (HP.out.at hB hbw) (HQ.out.at hB hbw) HT.out
    have m0 := HB1.out.a0.c
    have m1 := HB1.out.a1.c
    have m2 := HB1.out.a2.c
    have m3 := HB1.out.a3.c
    have m4 := HB1.out.a4.c
    have m5 := HB1.out.a5.c
    go_wp2_with fail
    refine (check_ok w1).mono ?_
    rintro e w2 ⟨rfl, rfl⟩
    go_wp2_with fail
    refine k2.mono ?_
    rintro e w3 ⟨he, hb3⟩
    clear k2 m0 m1 m2 m3 m4 m5
    have HB3 : Hid (Bq w3 w.heap.size (.int .i64 kk) (.string kc) (.int .i64 kl) (.int .i64 kh) (.slice ka kn' kd) (.slice kb km kp)) := HB1.out.at hb3
    have hbw3 : Below w.heap.size w w3 := bt hbw hb3
    clear HB1 hb3
    cases r with
    | error er =>
      obtain rfl : e = .panicked (chn er) := he
      go_wp2
      exact ⟨rfl, rfl, hbw3⟩
    | ok bb =>
      obtain ⟨b1, b2, b3⟩ := bb
      obtain rfl : e = .returned (.agg #[.int .i64 b1, .int .i64 b2, .int .i64 b3]) := he
      have s0 := HB3.out.e0.c
      have s1 := HB3.out.e1.c
      have s2 := HB3.out.e2.c
      have f0 := HB3.out.e0.f
      have f1 := HB3.out.e1.f
      have f2 := HB3.out.e2.f
      go_wp2
      exact bodyPost_ret (v := .agg #[.int .i64 b1, .int .i64 b2, .int .i64 b3]) (by simp [results, Tryz.results62, go_sem, s0, s1, s2]) rfl ⟨rfl, bs3 hbw3 (Nat.le_succ _) _ _ _⟩
  · obtain rfl : Except.error ec = r := by rw [← HR.out, typ, HEC.out, if_neg he]
    go_wp2_with fail
    refine (check_no ec he w1).mono ?_
    rintro e w2 ⟨rfl, rfl⟩
    go_wp2
    exact ⟨rfl, rfl, hbw⟩

/-- a question in a box -/
structure Bx (W : World) (N : Nat) (v0 v1 v2 v3 v4 v5 : Value) : Prop where
  a0 : Cl W N 0 v0
  a1 : Cl W N 1 v1
  a2 : Cl W N 2 v2
  a3 : Cl W N 3 v3
  a4 : Cl W N 4 v4
  a5 : Cl W N 5 v5
theorem Bx.at {W W' : World} {N : Nat} {v0 v1 v2 v3 v4 v5 : Value} (h : Bx W N v0 v1 v2 v3 v4 v5) (hb : Below W.heap.size W W') : Bx W' N v0 v1 v2 v3 v4 v5 := ⟨h.a0.at hb, h.a1.at hb, h.a2.at hb, h.a3.at hb, h.a4.at hb, h.a5.at hb⟩
theorem Bx.new (W : World) (N : Nat) (hN : N = W.heap.size) (v0 v1 v2 v3 v4 v5 : Value) : Bx (W.alloc (.cells #[v0, v1, v2, v3, v4, v5] 31)) N v0 v1 v2 v3 v4 v5 := by
  constructor <;> exact Cl.new _ 31 _ _ hN rfl

set_option maxHeartbeats 1000000 in
set_option maxRecDepth 100000 in
theorem type1_any (l : List Col) (q : Qu) (w : World) (B L N : Nat) (lv v0 v1 v2 v3 v4 v5 : Value) (r : Except Int Bnd) (hB : B ≤ w.heap.size) (hp : Cols w B lv l) (hq : Qm w B q v0 v1 v2 v3 v4 v5) (hr : typ l q = r) (hL : Cl w L 0 lv) (hN : Bx w N v0 v1 v2 v3 v4 v5) :
    Calls Tryz.prog 61 #[.pointer (some ⟨L, 0, none⟩), .pointer (some ⟨N, 0, none⟩)] w fun e w' => e = endB r ∧ Below w.heap.size w w' := by
  have hb0 := ba w (.cells #[.int .i64 0, .int .i64 0, .int .i64 0] 61)
  have k1 := typed_any l q (w.alloc (.cells #[.int .i64 0, .int .i64 0, .int .i64 0] 61)) B lv v0 v1 v2 v3 v4 v5 r (Nat.le_trans hB hb0.size) (hp.at hB hb0) (hq.at hB hb0) hr
  obtain ⟨la, lc, rfl, _⟩ := hp.slice
  obtain ⟨kk, kc, kl, kh, ka, kn', kd, kb, km, kp, rfl, rfl, rfl, rfl, rfl, rfl⟩ := hq.shape
  have hL2 := hL.at hb0
  have hN2 := hN.at hb0
  have m0 := hN2.a0.c
  have m1 := hN2.a1.c
  have m2 := hN2.a2.c
  have m3 := hN2.a3.c
  have m4 := hN2.a4.c
  have m5 := hN2.a5.c
  have m6 := hL2.c
  clear hp hq hr hL hN hL2 hN2
  go_enter Tryz.func61, Tryz.ntmps61
  go_wp2_with fail
  refine k1.mono ?_
  rintro e w1 ⟨he, hb1⟩
  clear k1 m0 m1 m2 m3 m4 m5 m6
  have a0 := (Cl.new (w := w) #[.int .i64 0, .int .i64 0, .int .i64 0] 61 0 _ rfl rfl).at hb1
  have a1 := (Cl.new (w := w) #[.int .i64 0, .int .i64 0, .int .i64 0] 61 1 _ rfl rfl).at hb1
  have a2 := (Cl.new (w := w) #[.int .i64 0, .int .i64 0, .int .i64 0] 61 2 _ rfl rfl).at hb1
  have hbw : Below w.heap.size w w1 := bt hb0 hb1
  clear hb0 hb1
  have s0 := a0.c
  have s1 := a1.c
  have s2 := a2.c
  have f0 := a0.f
  have f1 := a1.f
  have f2 := a2.f
  cases r with
  | error er =>
    obtain rfl : e = .panicked (chn er) := he
    go_wp2
    exact ⟨rfl, rfl, hbw⟩
  | ok bb =>
    obtain ⟨b1, b2, b3⟩ := bb
    obtain rfl : e = .returned (.agg #[.int .i64 b1, .int .i64 b2, .int .i64 b3]) := he
    go_wp2
    exact bodyPost_ret (v := .agg #[.int .i64 b1, .int .i64 b2, .int .i64 b3]) (by simp [results, Tryz.results61, go_sem, s0, s1, s2]) rfl ⟨rfl, bs3 hbw (Nat.le_refl _) _ _ _⟩

/-- what Type answers: a bound and what is wrong -/
def typV : Except Int Bnd → Bnd × Int
  | .error e => ((0, 0, 0), e)
  | .ok b => (b, 0)
set_option maxHeartbeats 1000000 in
set_option maxRecDepth 100000 in
theorem type_any (l : List Col) (q : Qu) (w : World) (B : Nat) (lv v0 v1 v2 v3 v4 v5 : Value) (b1 b2 b3 er : Int) (hB : B ≤ w.heap.size) (hp : Cols w B lv l) (hq : Qm w B q v0 v1 v2 v3 v4 v5) (hr : typV (typ l q) = ((b1, b2, b3), er)) :
    Calls Tryz.prog 24 #[lv, .agg #[v0, v1, v2, v3, v4, v5]] w fun e w' => e = .returned (.tuple #[.agg #[.int .i64 b1, .int .i64 b2, .int .i64 b3], .int .i64 er]) ∧ Below w.heap.size w w' := by
  have hb0 : Below w.heap.size w (((w.alloc (.cells #[lv] 24)).alloc (.cells #[v0, v1, v2, v3, v4, v5] 31)).alloc (.cells #[.int .i64 0, .int .i64 0, .int .i64 0] 61)) := bal (bal (ba _ _) _) _
  have hL : Cl (((w.alloc (.cells #[lv] 24)).alloc (.cells #[v0, v1, v2, v3, v4, v5] 31)).alloc (.cells #[.int .i64 0, .int .i64 0, .int .i64 0] 61)) w.heap.size 0 lv := ((Cl.new _ 24 _ _ rfl rfl).at (ba _ _)).at (ba _ _)
  have hN : Bx (((w.alloc (.cells #[lv] 24)).alloc (.cells #[v0, v1, v2, v3, v4, v5] 31)).alloc (.cells #[.int .i64 0, .int .i64 0, .int .i64 0] 61)) (w.heap.size + 1) v0 v1 v2 v3 v4 v5 := (Bx.new _ _ (by simp) _ _ _ _ _ _).at (ba _ _)
  have kc : Calls Tryz.prog 60 #[.func (.func 61) #[] #[.pointer (some ⟨w.heap.size, 0, none⟩), .pointer (some ⟨w.heap.size + 1, 0, none⟩)]] (((w.alloc (.cells #[lv] 24)).alloc (.cells #[v0, v1, v2, v3, v4, v5] 31)).alloc (.cells #[.int .i64 0, .int .i64 0, .int .i64 0] 61)) fun e w' => e = .returned (.tuple #[.agg #[.int .i64 b1, .int .i64 b2, .int .i64 b3], .int .i64 er]) ∧ Below (((w.alloc (.cells #[lv] 24)).alloc (.cells #[v0, v1, v2, v3, v4, v5] 31)).alloc (.cells #[.int .i64 0, .int .i64 0, .int .i64 0] 61)).heap.size (((w.alloc (.cells #[lv] 24)).alloc (.cells #[v0, v1, v2, v3, v4, v5] 31)).alloc (.cells #[.int .i64 0, .int .i64 0, .int .i64 0] 61)) w' := by
    generalize hW : (((w.alloc (.cells #[lv] 24)).alloc (.cells #[v0, v1, v2, v3, v4, v5] 31)).alloc (.cells #[.int .i64 0, .int .i64 0, .int .i64 0] 61)) = W at *
    have inner : ∀ r, typ l q = r → ∀ W', Below W.heap.size W W' → W.heap.size + 2 ≤ W'.heap.size → Calls Tryz.prog 61 #[.pointer (some ⟨w.heap.size, 0, none⟩), .pointer (some ⟨w.heap.size + 1, 0, none⟩)] W' fun e w' => e = endB r ∧ Below W'.heap.size W' w' := by
      intro r hr W' hW' hs
      have hsz := hb0.size
      exact type1_any l q W' B _ _ lv v0 v1 v2 v3 v4 v5 r (by omega) ((hp.at hB hb0).at (by omega) hW') ((hq.at hB hb0).at (by omega) hW') hr (hL.at hW') (hN.at hW')
    cases ht : typ l q with
    | error e1 =>
      rw [ht] at hr
      simp only [typV, Prod.mk.injEq] at hr
      obtain ⟨⟨rfl, rfl, rfl⟩, rfl⟩ := hr
      exact caughtB_no _ e1 W (inner _ ht)
    | ok bb =>
      obtain ⟨c1, c2, c3⟩ := bb
      rw [ht] at hr
      simp only [typV, Prod.mk.injEq] at hr
      obtain ⟨⟨rfl, rfl, rfl⟩, rfl⟩ := hr
      exact caughtB_ok _ c1 c2 c3 W (inner _ ht)
  obtain ⟨la, lc, rfl, _⟩ := hp.slice
  obtain ⟨kk, kc', kl, kh, ka, kn', kd, kb, km, kp, rfl, rfl, rfl, rfl, rfl, rfl⟩ := hq.shape
  have hmf := hmf
  clear hp hq hr hL hN
  go_enter Tryz.func24, Tryz.ntmps24
  go_wp2_with fail
  refine kc.mono ?_
  rintro e w1 ⟨rfl, hb1⟩
  clear kc
  have a0 := (Cl.new (w := ((w.alloc (.cells #[.slice la l.length lc] 24)).alloc (.cells #[.int .i64 kk, .string kc', .int .i64 kl, .int .i64 kh, .slice ka kn' kd, .slice kb km kp] 31))) (N := w.heap.size + 1 + 1) #[.int .i64 0, .int .i64 0, .int .i64 0] 61 0 _ (by simp) rfl).at hb1
  have a1 := (Cl.new (w := ((w.alloc (.cells #[.slice la l.length lc] 24)).alloc (.cells #[.int .i64 kk, .string kc', .int .i64 kl, .int .i64 kh, .slice ka kn' kd, .slice kb km kp] 31))) (N := w.heap.size + 1 + 1) #[.int .i64 0, .int .i64 0, .int .i64 0] 61 1 _ (by simp) rfl).at hb1
  have a2 := (Cl.new (w := ((w.alloc (.cells #[.slice la l.length lc] 24)).alloc (.cells #[.int .i64 kk, .string kc', .int .i64 kl, .int .i64 kh, .slice ka kn' kd, .slice kb km kp] 31))) (N := w.heap.size + 1 + 1) #[.int .i64 0, .int .i64 0, .int .i64 0] 61 2 _ (by simp) rfl).at hb1
  have hbw : Below w.heap.size w w1 := bt hb0 hb1
  clear hb0 hb1
  have s0 := a0.c
  have s1 := a1.c
  have s2 := a2.c
  have f0 := a0.f
  have f1 := a1.f
  have f2 := a2.f
  go_wp2
  exact bodyPost_ret (v := .tuple #[.agg #[.int .i64 b1, .int .i64 b2, .int .i64 b3], .int .i64 er]) (by simp [results, Tryz.results24, go_sem, s0, s1, s2]) rfl ⟨rfl, bs3 hbw (by omega) _ _ _⟩
end Go.Proofs.YtlndlpjadajelaaGreat.K

namespace Go.Proofs.YtlndlpjadajelaaGreat.K
open Go.RowKit Go.Proofs.YtlndlpjadajelaaGreat.K.Ds

theorem AnsP.up {w W : World} {xs : List Int} {e : Ending} {w' : World} (h : AnsP W xs e w') (hb : Below w.heap.size w W) : AnsP w xs e w' := by
  obtain ⟨g, c, he, ha, hbw⟩ := h
  exact ⟨g, c, he, ha.mono hb.size, bt hb hbw⟩
theorem clt {w : World} {a : Addr} {v : Value} (h : w.cell? a = some v) : a.block < w.heap.size := by
  unfold World.cell? at h
  split at h
  · rename_i hb; exact (Array.getElem?_eq_some_iff.1 hb).1
  · cases h
theorem ansP_drew {w : World} {xs : List Int} {e : Ending} {w' : World} (h : AnsP w.drew xs e w') : AnsP w xs e w' := AnsP.up h (Below.refl _ _).drew

set_option maxHeartbeats 2000000 in
set_option maxRecDepth 100000 in
theorem kid0_any (N N1 : Nat) (cv rv : Value) (b o n cap : Nat) (hn : 0 < n) (xs : List Int) (w : World) (t0 : w.cell? ⟨N, 0, none⟩ = some cv) (t1 : w.cell? ⟨N, 1, none⟩ = some rv) (t5 : w.cell? ⟨N1, 5, none⟩ = some (.slice (some ⟨b, o, none⟩) n cap)) (B : Nat) (x : Qu) (u0 u1 u2 u3 u4 u5 : Value) (hu : At6 w b (o) u0 u1 u2 u3 u4 u5) (hq : Qm w B x u0 u1 u2 u3 u4 u5) (l : List Col) (ts : List Rw) (hp : Cols w B cv l) (hr : Rws w B rv ts)
    (kc : Calls Tryz.prog 73 #[.agg #[cv, rv], .agg #[u0, u1, u2, u3, u4, u5]] w.drew (AnsP w.drew xs)) :
    Calls Tryz.prog 127 #[.int .i64 0, .pointer (some ⟨N, 0, none⟩), .pointer (some ⟨N1, 0, none⟩)] w (AnsP w xs) := by
  obtain ⟨la, lc, rfl, _⟩ := hp.slice
  obtain ⟨ra, rc, rfl, _⟩ := hr.slice
  obtain ⟨kk, kc', kl, kh, ka, kn', kd, kb, km, kp, rfl, rfl, rfl, rfl, rfl, rfl⟩ := hq.shape
  obtain ⟨c0, c1, c2, c3, c4, c5⟩ := hu
  have lN : N < w.heap.size := clt t0
  have lN1 : N1 < w.heap.size := clt t5
  have lb : b < w.heap.size := clt c0
  have hn1 : ((0 : Int)) < (n : Int) := by omega
  have hn2 : (0 : Int) ≤ 0 := by decide
  clear hp hr hq
  go_enter Tryz.func127, Tryz.ntmps127
  go_wp2
  go_region_held3 (fun w' => w'.cell? ⟨N, 0, none⟩ = some (.slice la l.length lc) ∧ w'.cell? ⟨N, 1, none⟩ = some (.slice ra ts.length rc) ∧ w'.cell? ⟨N1, 5, none⟩ = some (.slice (some ⟨b, o, none⟩) n cap) ∧ w'.cell? ⟨b, o, none⟩ = some (.int .i64 kk) ∧ w'.cell? ⟨b, o + 1, none⟩ = some (.string kc') ∧ w'.cell? ⟨b, o + 2, none⟩ = some (.int .i64 kl) ∧ w'.cell? ⟨b, o + 3, none⟩ = some (.int .i64 kh) ∧ w'.cell? ⟨b, o + 4, none⟩ = some (.slice ka kn' kd) ∧ w'.cell? ⟨b, o + 5, none⟩ = some (.slice kb km kp)) (first | assumption | (simp [go_sem, *]; done)) ((go_at_call 73; refine kc.mono ?_; rintro x3 w3 hA; obtain ⟨g3, c3', rfl, hA3, hb3⟩ := hA; have z0 := (hb3.cell (p := ⟨N, 0, none⟩) lN).trans t0; have z1 := (hb3.cell (p := ⟨N, 1, none⟩) lN).trans t1; have z2 := (hb3.cell (p := ⟨N1, 5, none⟩) lN1).trans t5; have y0 := (hb3.cell (p := ⟨b, o, none⟩) lb).trans c0; have y1 := (hb3.cell (p := ⟨b, o + 1, none⟩) lb).trans c1; have y2 := (hb3.cell (p := ⟨b, o + 2, none⟩) lb).trans c2; have y3 := (hb3.cell (p := ⟨b, o + 3, none⟩) lb).trans c3; have y4 := (hb3.cell (p := ⟨b, o + 4, none⟩) lb).trans c4; have y5 := (hb3.cell (p := ⟨b, o + 5, none⟩) lb).trans c5))
  go_wp2
  go_ret
  exact ansP_drew ⟨g3, c3', rfl, hA3, hb3⟩
set_option maxHeartbeats 2000000 in
set_option maxRecDepth 100000 in
theorem kid1_any (N N1 : Nat) (cv rv : Value) (b o n cap : Nat) (hn : 1 < n) (xs : List Int) (w : World) (t0 : w.cell? ⟨N, 0, none⟩ = some cv) (t1 : w.cell? ⟨N, 1, none⟩ = some rv) (t5 : w.cell? ⟨N1, 5, none⟩ = some (.slice (some ⟨b, o, none⟩) n cap)) (B : Nat) (x : Qu) (u0 u1 u2 u3 u4 u5 : Value) (hu : At6 w b (o + 6) u0 u1 u2 u3 u4 u5) (hq : Qm w B x u0 u1 u2 u3 u4 u5) (l : List Col) (ts : List Rw) (hp : Cols w B cv l) (hr : Rws w B rv ts)
    (kc : Calls Tryz.prog 73 #[.agg #[cv, rv], .agg #[u0, u1, u2, u3, u4, u5]] w.drew (AnsP w.drew xs)) :
    Calls Tryz.prog 127 #[.int .i64 1, .pointer (some ⟨N, 0, none⟩), .pointer (some ⟨N1, 0, none⟩)] w (AnsP w xs) := by
  obtain ⟨la, lc, rfl, _⟩ := hp.slice
  obtain ⟨ra, rc, rfl, _⟩ := hr.slice
  obtain ⟨kk, kc', kl, kh, ka, kn', kd, kb, km, kp, rfl, rfl, rfl, rfl, rfl, rfl⟩ := hq.shape
  obtain ⟨c0, c1, c2, c3, c4, c5⟩ := hu
  have lN : N < w.heap.size := clt t0
  have lN1 : N1 < w.heap.size := clt t5
  have lb : b < w.heap.size := clt c0
  have hn1 : ((1 : Int)) < (n : Int) := by omega
  have hn2 : (0 : Int) ≤ 1 := by decide
  clear hp hr hq
  go_enter Tryz.func127, Tryz.ntmps127
  go_wp2
  go_region_held3 (fun w' => w'.cell? ⟨N, 0, none⟩ = some (.slice la l.length lc) ∧ w'.cell? ⟨N, 1, none⟩ = some (.slice ra ts.length rc) ∧ w'.cell? ⟨N1, 5, none⟩ = some (.slice (some ⟨b, o, none⟩) n cap) ∧ w'.cell? ⟨b, o + 6, none⟩ = some (.int .i64 kk) ∧ w'.cell? ⟨b, o + 6 + 1, none⟩ = some (.string kc') ∧ w'.cell? ⟨b, o + 6 + 2, none⟩ = some (.int .i64 kl) ∧ w'.cell? ⟨b, o + 6 + 3, none⟩ = some (.int .i64 kh) ∧ w'.cell? ⟨b, o + 6 + 4, none⟩ = some (.slice ka kn' kd) ∧ w'.cell? ⟨b, o + 6 + 5, none⟩ = some (.slice kb km kp)) (first | assumption | (simp [go_sem, *]; done)) ((go_at_call 73; refine kc.mono ?_; rintro x3 w3 hA; obtain ⟨g3, c3', rfl, hA3, hb3⟩ := hA; have z0 := (hb3.cell (p := ⟨N, 0, none⟩) lN).trans t0; have z1 := (hb3.cell (p := ⟨N, 1, none⟩) lN).trans t1; have z2 := (hb3.cell (p := ⟨N1, 5, none⟩) lN1).trans t5; have y0 := (hb3.cell (p := ⟨b, o + 6, none⟩) lb).trans c0; have y1 := (hb3.cell (p := ⟨b, o + 6 + 1, none⟩) lb).trans c1; have y2 := (hb3.cell (p := ⟨b, o + 6 + 2, none⟩) lb).trans c2; have y3 := (hb3.cell (p := ⟨b, o + 6 + 3, none⟩) lb).trans c3; have y4 := (hb3.cell (p := ⟨b, o + 6 + 4, none⟩) lb).trans c4; have y5 := (hb3.cell (p := ⟨b, o + 6 + 5, none⟩) lb).trans c5))
  go_wp2
  go_ret
  exact ansP_drew ⟨g3, c3', rfl, hA3, hb3⟩
end Go.Proofs.YtlndlpjadajelaaGreat.K

namespace Go.Proofs.YtlndlpjadajelaaGreat.K
open Go.RowKit Go.Proofs.YtlndlpjadajelaaGreat.K.Ds

theorem plus_any (x y : Int) (w : World) (hx : -1152921504606846976 ≤ x ∧ x ≤ 1152921504606846976) (hy : -1152921504606846976 ≤ y ∧ y ≤ 1152921504606846976) :
    Calls Tryz.prog 134 #[.int .i64 x, .int .i64 y] w fun e w' => e = .returned (.int .i64 (x + y)) ∧ w' = w := by
  obtain ⟨a1, a2⟩ := hx
  obtain ⟨b1, b2⟩ := hy
  go_enter Tryz.func134, Tryz.ntmps134
  go_wp2
  go_ret
  exact ⟨rfl, rfl⟩
theorem minus_any (x y : Int) (w : World) (hx : -1152921504606846976 ≤ x ∧ x ≤ 1152921504606846976) (hy : -1152921504606846976 ≤ y ∧ y ≤ 1152921504606846976) :
    Calls Tryz.prog 135 #[.int .i64 x, .int .i64 y] w fun e w' => e = .returned (.int .i64 (x - y)) ∧ w' = w := by
  obtain ⟨a1, a2⟩ := hx
  obtain ⟨b1, b2⟩ := hy
  go_enter Tryz.func135, Tryz.ntmps135
  go_wp2
  go_ret
  exact ⟨rfl, rfl⟩
theorem times_any (N : Nat) (lo x : Int) (w : World) (h2 : w.cell? ⟨N, 2, none⟩ = some (.int .i64 lo)) (hl : -1048576 ≤ lo ∧ lo ≤ 1048576) (hx : -1099511627776 ≤ x ∧ x ≤ 1099511627776) :
    Calls Tryz.prog 137 #[.int .i64 x, .pointer (some ⟨N, 0, none⟩)] w fun e w' => e = .returned (.int .i64 (lo * x)) ∧ w' = w := by
  have hm := mul_abs hl hx
  have hw : wrap64 (lo * x) = lo * x := wrap_id (by omega)
  go_enter Tryz.func137, Tryz.ntmps137
  go_wp2
  go_ret
  exact ⟨rfl, rfl⟩

set_option maxHeartbeats 1000000 in
theorem total_any (B nb : Nat) (v : Value) (xs : List Int) (w : World) (hB : B ≤ w.heap.size) (hx : Ints w B nb v xs) (hl : xs.length ≤ 4096) (hbd : Bdd 1099511627776 xs) (r : Int) (hr : smL xs = r) :
    Calls Tryz.prog 138 #[v] w fun e w' => e = .returned (.int .i64 r) ∧ w' = w := by
  have HX : Hid (Ints w B nb v xs) := hx
  have HR : Hid (smL xs = r) := hr
  have HB : Hid (Bdd 1099511627776 xs) := hbd
  obtain ⟨a, c, rfl, _⟩ := hx
  clear hr hbd
  go_enter Tryz.func138, Tryz.ntmps138
  go_wp2
  go_loopw [3, 8] (fun t s' wr => ∃ (i : Nat) (k : Int), t = .int .i64 k ∧ s' = .int .i64 (i : Int) ∧ i ≤ xs.length ∧ Hid (k + smL (xs.drop i) = r) ∧ Hid (-(i * 1099511627776) ≤ k ∧ k ≤ i * 1099511627776) ∧ wr = w) (fun _ s' _ => xs.length - (intOf s').toNat)
  case atStart => exact ⟨0, 0, rfl, rfl, Nat.zero_le _, by show _ = _; rw [List.drop_zero, Int.zero_add]; exact HR.out, by show _ ∧ _; omega, rfl⟩
  case round =>
    obtain ⟨i, k, rfl, rfl, hi, HI, HK, rfl⟩ := hrel
    by_cases h1 : i < xs.length
    · obtain ⟨b, o, x, rfl, _, hb, hn, hg, hgd, hcell⟩ := HX.out.got h1
      have hxb := HB.out x (List.mem_of_getElem? hg)
      obtain ⟨k1, k2⟩ := HK.out
      have b1 : -9223372036854775808 ≤ k + x := by omega
      have b2 : k + x ≤ 9223372036854775807 := by omega
      have HI2 : Hid (k + x + smL (xs.drop (i + 1)) = r) := by
        show _ = _
        rw [← HI.out, List.drop_eq_getElem_cons h1, (List.getElem?_eq_some_iff.1 hg).2]
        simp only [smL]
        omega
      have HK2 : Hid (-((i + 1 : Nat) * 1099511627776) ≤ k + x ∧ k + x ≤ (i + 1 : Nat) * 1099511627776) := by show _ ∧ _; omega
      clear hg hgd k1 k2 hxb
      go_wp2
      go_roundw
      case rel => exact ⟨i + 1, k + x, rfl, by go_num, h1, HI2, HK2, trivial⟩
      case measure => simp [intOf]; omega
    · obtain rfl : k = r := by have := HI.out; rw [List.drop_of_length_le (by omega)] at this; simpa [smL] using this
      go_wp2
      go_ret
      exact ⟨rfl, rfl⟩

theorem part_set {xs zs : List Int} {i : Nat} {z : Int} (hl : zs.length = xs.length) (hz : zs[i]? = some z) : (zs.take i ++ xs.drop i).set i z = zs.take (i + 1) ++ xs.drop (i + 1) := by
  have hi : i < zs.length := (List.getElem?_eq_some_iff.1 hz).1
  rw [List.set_append_right _ _ (by rw [List.length_take]; omega), List.length_take, Nat.min_eq_left (by omega), Nat.sub_self, List.take_add_one, hz, show xs.drop i = xs[i] :: xs.drop (i + 1) from List.drop_eq_getElem_cons (by omega), List.set_cons_zero, List.append_assoc]
  rfl
theorem part_len {xs zs : List Int} (i : Nat) (hl : zs.length = xs.length) : (zs.take i ++ xs.drop i).length = xs.length := by
  rw [List.length_append, List.length_take, List.length_drop]; omega
theorem part_get {xs zs : List Int} {i : Nat} {x : Int} (hl : zs.length = xs.length) (hx : xs[i]? = some x) : (zs.take i ++ xs.drop i)[i]? = some x := by
  have hi : i < xs.length := (List.getElem?_eq_some_iff.1 hx).1
  rw [List.getElem?_append_right (by rw [List.length_take]; omega), List.length_take, Nat.min_eq_left (by omega), Nat.sub_self, List.getElem?_drop, Nat.add_zero, hx]

set_option maxHeartbeats 2000000 in
set_option maxRecDepth 100000 in
theorem pairP_any (lo g c B : Nat) (yv : Value) (xs ys : List Int) (w : World) (hx : Arw w lo g c xs) (hy : Ints w B g yv ys) (hl : xs.length = ys.length) (hbx : Bdd 1099511627776 xs) (hby : Bdd 1099511627776 ys) :
    Calls Tryz.prog 133 #[.slice (some ⟨g, 0, none⟩) xs.length c, yv, .func (.func 134) #[] #[]] w fun e w' => e = .returned (.slice (some ⟨g, 0, none⟩) xs.length c) ∧ Arw w' lo g c (List.zipWith (· + ·) xs ys) ∧ w.grownBy w' (some g) := by
  have HY : Hid (Ints w B g yv ys) := hy
  have HX : Hid (Arw w lo g c xs) := hx
  have HL : Hid (xs.length = ys.length) := hl
  have HZ : Hid ((List.zipWith (· + ·) xs ys).length = xs.length) := by show _ = _; rw [List.length_zipWith]; omega
  have HBX : Hid (Bdd 1099511627776 xs) := hbx
  have HBY : Hid (Bdd 1099511627776 ys) := hby
  obtain ⟨_, _, _, hxc, hcm, _⟩ := hx.inv
  rw [maxLen_eq'] at hcm
  obtain ⟨ya, yc, rfl, hyc, hyl, _⟩ := hy
  have hxl : xs.length ≤ 9223372036854775807 := by omega
  clear hx hl hbx hby
  go_enter Tryz.func133, Tryz.ntmps133
  go_wp2
  go_loopw [10] (fun s' wr => ∃ (i : Nat), s' = .int .i64 (i : Int) ∧ i ≤ xs.length ∧ Hid (Arw wr lo g c ((List.zipWith (· + ·) xs ys).take i ++ xs.drop i)) ∧ Hid (w.grownBy wr (some g))) (fun s' _ => xs.length - (intOf s').toNat)
  case atStart => exact ⟨0, rfl, Nat.zero_le _, by simpa [Hid] using HX.out, World.grownBy.refl _ _⟩
  case round =>
    obtain ⟨i, rfl, hi, HA, HG⟩ := hrel
    by_cases h1 : i < xs.length
    · obtain ⟨x, hgx⟩ := get_lt h1
      have h1y : i < ys.length := by have := HL.out; omega
      obtain ⟨b, o, y, rfl, _, hbB, hbn, hgy, _, hcy⟩ := HY.out.got h1y
      have cy : wr.cell? ⟨b, o + i, none⟩ = some (.int .i64 y) := HG.out.cell hcy (by simpa using hbn)
      have cx : wr.cell? ⟨g, i, none⟩ = some (.int .i64 x) := HA.out.cell (part_get HZ.out hgx)
      have fx : wr.frozen? ⟨g, i, none⟩ = false := HA.out.fz i
      have bx := HBX.out x (List.mem_of_getElem? hgx)
      have b_y := HBY.out y (List.mem_of_getElem? hgy)
      have kt := plus_any x y wr.drew (by omega) (by omega)
      have HA2 : Hid (Arw ((wr.setCell ⟨g, i, none⟩ (.int .i64 (x + y))).drew) lo g c ((List.zipWith (· + ·) xs ys).take (i + 1) ++ xs.drop (i + 1))) := by
        have hz : (List.zipWith (· + ·) xs ys)[i]? = some (x + y) := by rw [List.getElem?_zipWith, hgx, hgy]
        rw [← part_set HZ.out hz]
        exact (HA.out.set i _).at (Below.refl _ _).drew
      have HG2 : Hid (w.grownBy ((wr.setCell ⟨g, i, none⟩ (.int .i64 (x + y))).drew) (some g)) := gb_drew (gb_set HG.out _ _)
      clear hgx hgy hcy bx b_y
      go_wp2
      go_region_law (first | (go_simp; go_at_call 134; refine kt.mono ?_; rintro x3 w3 ⟨rfl, hw3⟩; subst hw3; go_wp2_with fail))
      all_goals
        go_wp2
        go_roundw
        case rel => exact ⟨i + 1, by go_num, h1, HA2, HG2⟩
        case measure => simp [intOf]; omega
    · have HA2 : Hid (Arw wr lo g c (List.zipWith (· + ·) xs ys)) := by
        have := HA.out
        rwa [List.drop_of_length_le (by omega), List.append_nil, List.take_of_length_le (by rw [HZ.out]; omega)] at this
      go_wp2
      go_ret
      exact ⟨rfl, HA2.out, HG.out⟩

set_option maxHeartbeats 2000000 in
set_option maxRecDepth 100000 in
theorem pairM_any (lo g c B : Nat) (yv : Value) (xs ys : List Int) (w : World) (hx : Arw w lo g c xs) (hy : Ints w B g yv ys) (hl : xs.length = ys.length) (hbx : Bdd 1099511627776 xs) (hby : Bdd 1099511627776 ys) :
    Calls Tryz.prog 133 #[.slice (some ⟨g, 0, none⟩) xs.length c, yv, .func (.func 135) #[] #[]] w fun e w' => e = .returned (.slice (some ⟨g, 0, none⟩) xs.length c) ∧ Arw w' lo g c (List.zipWith (· - ·) xs ys) ∧ w.grownBy w' (some g) := by
  have HY : Hid (Ints w B g yv ys) := hy
  have HX : Hid (Arw w lo g c xs) := hx
  have HL : Hid (xs.length = ys.length) := hl
  have HZ : Hid ((List.zipWith (· - ·) xs ys).length = xs.length) := by show _ = _; rw [List.length_zipWith]; omega
  have HBX : Hid (Bdd 1099511627776 xs) := hbx
  have HBY : Hid (Bdd 1099511627776 ys) := hby
  obtain ⟨_, _, _, hxc, hcm, _⟩ := hx.inv
  rw [maxLen_eq'] at hcm
  obtain ⟨ya, yc, rfl, hyc, hyl, _⟩ := hy
  have hxl : xs.length ≤ 9223372036854775807 := by omega
  clear hx hl hbx hby
  go_enter Tryz.func133, Tryz.ntmps133
  go_wp2
  go_loopw [10] (fun s' wr => ∃ (i : Nat), s' = .int .i64 (i : Int) ∧ i ≤ xs.length ∧ Hid (Arw wr lo g c ((List.zipWith (· - ·) xs ys).take i ++ xs.drop i)) ∧ Hid (w.grownBy wr (some g))) (fun s' _ => xs.length - (intOf s').toNat)
  case atStart => exact ⟨0, rfl, Nat.zero_le _, by simpa [Hid] using HX.out, World.grownBy.refl _ _⟩
  case round =>
    obtain ⟨i, rfl, hi, HA, HG⟩ := hrel
    by_cases h1 : i < xs.length
    · obtain ⟨x, hgx⟩ := get_lt h1
      have h1y : i < ys.length := by have := HL.out; omega
      obtain ⟨b, o, y, rfl, _, hbB, hbn, hgy, _, hcy⟩ := HY.out.got h1y
      have cy : wr.cell? ⟨b, o + i, none⟩ = some (.int .i64 y) := HG.out.cell hcy (by simpa using hbn)
      have cx : wr.cell? ⟨g, i, none⟩ = some (.int .i64 x) := HA.out.cell (part_get HZ.out hgx)
      have fx : wr.frozen? ⟨g, i, none⟩ = false := HA.out.fz i
      have bx := HBX.out x (List.mem_of_getElem? hgx)
      have b_y := HBY.out y (List.mem_of_getElem? hgy)
      have kt := minus_any x y wr.drew (by omega) (by omega)
      have HA2 : Hid (Arw ((wr.setCell ⟨g, i, none⟩ (.int .i64 (x - y))).drew) lo g c ((List.zipWith (· - ·) xs ys).take (i + 1) ++ xs.drop (i + 1))) := by
        have hz : (List.zipWith (· - ·) xs ys)[i]? = some (x - y) := by rw [List.getElem?_zipWith, hgx, hgy]
        rw [← part_set HZ.out hz]
        exact (HA.out.set i _).at (Below.refl _ _).drew
      have HG2 : Hid (w.grownBy ((wr.setCell ⟨g, i, none⟩ (.int .i64 (x - y))).drew) (some g)) := gb_drew (gb_set HG.out _ _)
      clear hgx hgy hcy bx b_y
      go_wp2
      go_region_law (first | (go_simp; go_at_call 135; refine kt.mono ?_; rintro x3 w3 ⟨rfl, hw3⟩; subst hw3; go_wp2_with fail))
      all_goals
        go_wp2
        go_roundw
        case rel => exact ⟨i + 1, by go_num, h1, HA2, HG2⟩
        case measure => simp [intOf]; omega
    · have HA2 : Hid (Arw wr lo g c (List.zipWith (· - ·) xs ys)) := by
        have := HA.out
        rwa [List.drop_of_length_le (by omega), List.append_nil, List.take_of_length_le (by rw [HZ.out]; omega)] at this
      go_wp2
      go_ret
      exact ⟨rfl, HA2.out, HG.out⟩

set_option maxHeartbeats 2000000 in
set_option maxRecDepth 100000 in
theorem eachT_any (lo0 g c N : Nat) (xs : List Int) (w : World) (hx : Arw w lo0 g c xs) (lo : Int) (hbx : Bdd 1099511627776 xs) (h2 : w.cell? ⟨N, 2, none⟩ = some (.int .i64 lo)) (hlo : -1048576 ≤ lo ∧ lo ≤ 1048576) (hN : N ≠ g) :
    Calls Tryz.prog 136 #[.slice (some ⟨g, 0, none⟩) xs.length c, .func (.func 137) #[] #[.pointer (some ⟨N, 0, none⟩)]] w fun e w' => e = .returned (.slice (some ⟨g, 0, none⟩) xs.length c) ∧ Arw w' lo0 g c (xs.map (lo * ·)) ∧ w.grownBy w' (some g) := by
  have HX : Hid (Arw w lo0 g c xs) := hx
  have HZ : Hid ((xs.map (lo * ·)).length = xs.length) := by show _ = _; simp
  have HBX : Hid (Bdd 1099511627776 xs) := hbx
  obtain ⟨_, _, _, hxc, hcm, _⟩ := hx.inv
  rw [maxLen_eq'] at hcm
  have hxl : xs.length ≤ 9223372036854775807 := by omega
  have H2 : Hid (w.cell? ⟨N, 2, none⟩ = some (.int .i64 lo)) := h2
  clear h2
  clear hx hbx
  go_enter Tryz.func136, Tryz.ntmps136
  go_wp2
  go_loopw [8] (fun s' wr => ∃ (i : Nat), s' = .int .i64 (i : Int) ∧ i ≤ xs.length ∧ Hid (Arw wr lo0 g c ((xs.map (lo * ·)).take i ++ xs.drop i)) ∧ Hid (w.grownBy wr (some g))) (fun s' _ => xs.length - (intOf s').toNat)
  case atStart => exact ⟨0, rfl, Nat.zero_le _, by simpa [Hid] using HX.out, World.grownBy.refl _ _⟩
  case round =>
    obtain ⟨i, rfl, hin, HA, HG⟩ := hrel
    by_cases h1 : i < xs.length
    · obtain ⟨x, hgx⟩ := get_lt h1
      have cx : wr.cell? ⟨g, i, none⟩ = some (.int .i64 x) := HA.out.cell (part_get HZ.out hgx)
      have fx : wr.frozen? ⟨g, i, none⟩ = false := HA.out.fz i
      have bx := HBX.out x (List.mem_of_getElem? hgx)
      have kt := times_any N lo x wr (HG.out.cell H2.out (by simpa using hN)) hlo bx
      have HA2 : Hid (Arw (wr.setCell ⟨g, i, none⟩ (.int .i64 ((lo * ·) x))) lo0 g c ((xs.map (lo * ·)).take (i + 1) ++ xs.drop (i + 1))) := by
        have hz : (xs.map (lo * ·))[i]? = some ((lo * ·) x) := by rw [List.getElem?_map, hgx]; rfl
        rw [← part_set HZ.out hz]
        exact HA.out.set i _
      have HG2 : Hid (w.grownBy (wr.setCell ⟨g, i, none⟩ (.int .i64 ((lo * ·) x))) (some g)) := gb_set HG.out _ _
      clear hgx bx
      obtain ⟨z, hz⟩ : ∃ z, (lo * ·) x = z := ⟨_, rfl⟩
      rw [hz] at HA2 HG2
      rw [show (lo * x : Int) = z from hz] at kt
      clear hz
      go_wp2_with fail
      refine kt.mono ?_
      rintro e w3 ⟨rfl, hw3⟩
      subst hw3
      clear kt
      go_wp2
      go_roundw
      case rel => exact ⟨i + 1, by go_num, h1, HA2, HG2⟩
      case measure => simp [intOf]; omega
    · have HA2 : Hid (Arw wr lo0 g c (xs.map (lo * ·))) := by
        have := HA.out
        rwa [List.drop_of_length_le (by omega), List.append_nil, List.take_of_length_le (by rw [HZ.out]; omega)] at this
      go_wp2
      go_ret
      exact ⟨rfl, HA2.out, HG.out⟩

set_option maxHeartbeats 2000000 in
set_option maxRecDepth 100000 in
theorem eachC_any (lo0 g c N : Nat) (xs : List Int) (w : World) (hx : Arw w lo0 g c xs) (lo hi : Int) (hbx : Bdd 1099511627776 xs) (h2 : w.cell? ⟨N, 2, none⟩ = some (.int .i64 lo)) (h3 : w.cell? ⟨N, 3, none⟩ = some (.int .i64 hi)) (hle : lo ≤ hi) (hN : N ≠ g) :
    Calls Tryz.prog 136 #[.slice (some ⟨g, 0, none⟩) xs.length c, .func (.func 126) #[] #[.pointer (some ⟨N, 0, none⟩)]] w fun e w' => e = .returned (.slice (some ⟨g, 0, none⟩) xs.length c) ∧ Arw w' lo0 g c (xs.map (inT lo hi)) ∧ w.grownBy w' (some g) := by
  have HX : Hid (Arw w lo0 g c xs) := hx
  have HZ : Hid ((xs.map (inT lo hi)).length = xs.length) := by show _ = _; simp
  have HBX : Hid (Bdd 1099511627776 xs) := hbx
  obtain ⟨_, _, _, hxc, hcm, _⟩ := hx.inv
  rw [maxLen_eq'] at hcm
  have hxl : xs.length ≤ 9223372036854775807 := by omega
  have H2 : Hid (w.cell? ⟨N, 2, none⟩ = some (.int .i64 lo)) := h2
  have H3 : Hid (w.cell? ⟨N, 3, none⟩ = some (.int .i64 hi)) := h3
  clear h2 h3
  clear hx hbx
  go_enter Tryz.func136, Tryz.ntmps136
  go_wp2
  go_loopw [8] (fun s' wr => ∃ (i : Nat), s' = .int .i64 (i : Int) ∧ i ≤ xs.length ∧ Hid (Arw wr lo0 g c ((xs.map (inT lo hi)).take i ++ xs.drop i)) ∧ Hid (w.grownBy wr (some g))) (fun s' _ => xs.length - (intOf s').toNat)
  case atStart => exact ⟨0, rfl, Nat.zero_le _, by simpa [Hid] using HX.out, World.grownBy.refl _ _⟩
  case round =>
    obtain ⟨i, rfl, hin, HA, HG⟩ := hrel
    by_cases h1 : i < xs.length
    · obtain ⟨x, hgx⟩ := get_lt h1
      have cx : wr.cell? ⟨g, i, none⟩ = some (.int .i64 x) := HA.out.cell (part_get HZ.out hgx)
      have fx : wr.frozen? ⟨g, i, none⟩ = false := HA.out.fz i
      have bx := HBX.out x (List.mem_of_getElem? hgx)
      have kt := into_any N lo hi x wr (HG.out.cell H2.out (by simpa using hN)) (HG.out.cell H3.out (by simpa using hN)) hle
      have HA2 : Hid (Arw (wr.setCell ⟨g, i, none⟩ (.int .i64 ((inT lo hi) x))) lo0 g c ((xs.map (inT lo hi)).take (i + 1) ++ xs.drop (i + 1))) := by
        have hz : (xs.map (inT lo hi))[i]? = some ((inT lo hi) x) := by rw [List.getElem?_map, hgx]; rfl
        rw [← part_set HZ.out hz]
        exact HA.out.set i _
      have HG2 : Hid (w.grownBy (wr.setCell ⟨g, i, none⟩ (.int .i64 ((inT lo hi) x))) (some g)) := gb_set HG.out _ _
      clear hgx bx
      obtain ⟨z, hz⟩ : ∃ z, (inT lo hi) x = z := ⟨_, rfl⟩
      rw [hz] at HA2 HG2
      rw [show (inT lo hi x : Int) = z from hz] at kt
      clear hz
      go_wp2_with fail
      refine kt.mono ?_
      rintro e w3 ⟨rfl, hw3⟩
      subst hw3
      clear kt
      go_wp2
      go_roundw
      case rel => exact ⟨i + 1, by go_num, h1, HA2, HG2⟩
      case measure => simp [intOf]; omega
    · have HA2 : Hid (Arw wr lo0 g c (xs.map (inT lo hi))) := by
        have := HA.out
        rwa [List.drop_of_length_le (by omega), List.append_nil, List.take_of_length_le (by rw [HZ.out]; omega)] at this
      go_wp2
      go_ret
      exact ⟨rfl, HA2.out, HG.out⟩
end Go.Proofs.YtlndlpjadajelaaGreat.K
