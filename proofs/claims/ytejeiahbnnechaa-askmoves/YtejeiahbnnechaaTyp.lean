import Derived.Test.YtejeiahbnnechaaBnd
namespace Go.Proofs.Ytejeiahbnnechaa
open Go.RowKit Go.Proofs.Ytejeiahbnnechaa.Ds

/-- what Type says -/
def typ (l : List Col) (q : Qu) : Except Int Bnd := if colE l = 0 then bnd l 1 q else .error (colE l)

set_option maxHeartbeats 1000000 in
set_option maxRecDepth 100000 in
theorem typed_any (l : List Col) (q : Qu) (w : World) (B : Nat) (lv v0 v1 v2 v3 v4 v5 : Value) (r : Except Int Bnd) (hB : B ≤ w.heap.size) (hp : Cols w B lv l) (hq : Qm w B q v0 v1 v2 v3 v4 v5) (hr : typ l q = r) :
    Calls Try.prog 22 #[lv, .agg #[v0, v1, v2, v3, v4, v5]] w fun e w' => e = endB r ∧ Below w.heap.size w w' := by
  have HP : Hid (Cols w B lv l) := hp
  have HQ : Hid (Qm w B q v0 v1 v2 v3 v4 v5) := hq
  have HR : Hid (typ l q = r) := hr
  obtain ⟨la, lc, rfl, _⟩ := hp.slice
  obtain ⟨kk, kc, kl, kh, ka, kn', kd, kb, km, kp, rfl, rfl, rfl, rfl, rfl, rfl⟩ := hq.shape
  obtain ⟨ec, hec⟩ : ∃ ec, colE l = ec := ⟨_, rfl⟩
  have bq := Bq.new w (.int .i64 kk) (.string kc) (.int .i64 kl) (.int .i64 kh) (.slice ka kn' kd) (.slice kb km kp)
  have hb0 : Below w.heap.size w ((w.alloc (.cells #[.int .i64 kk, .string kc, .int .i64 kl, .int .i64 kh, .slice ka kn' kd, .slice kb km kp] 26)).alloc (.cells #[.int .i64 0, .int .i64 0, .int .i64 0] 28)) := bal (ba _ _) _
  have k1 := columns_any B _ l _ (Nat.le_trans hB hb0.size) (hp.at hB hb0) ec hec
  have HEC : Hid (colE l = ec) := hec
  clear hp hq hr hec
  go_enter Try.func22, Try.ntmps22
  go_wp2_with fail
  refine k1.mono ?_
  rintro e w1 ⟨rfl, hb1⟩
  clear k1
  have hbw : Below w.heap.size w w1 := bt hb0 hb1
  have HB1 : Hid (Bq w1 w.heap.size (.int .i64 kk) (.string kc) (.int .i64 kl) (.int .i64 kh) (.slice ka kn' kd) (.slice kb km kp)) := bq.at hb1
  clear bq hb0 hb1
  by_cases he : ec = 0
  · subst he
    have HT : Hid (bnd l 1 q = r) := by have := HR.out; rwa [typ, if_pos HEC.out] at this
    have hsz := hbw.size
    have k2 := bound_any l (colE_ok HEC.out).2.2.1 q 1 w1 B (.slice la l.length lc) _ _ _ _ _ _ r (by decide) (by omega) (HP.out.at hB hbw) (HQ.out.at hB hbw) HT.out
    have m0 := HB1.out.a0.c
    have m1 := HB1.out.a1.c
    have m2 := HB1.out.a2.c
    have m3 := HB1.out.a3.c
    have m4 := HB1.out.a4.c
    have m5 := HB1.out.a5.c
    go_wp2_with fail
    refine (check_ok w1).mono ?_
    rintro e w2 ⟨rfl, rfl⟩
    go_wp2_with fail
    refine k2.mono ?_
    rintro e w3 ⟨he, hb3⟩
    clear k2 m0 m1 m2 m3 m4 m5
    have HB3 : Hid (Bq w3 w.heap.size (.int .i64 kk) (.string kc) (.int .i64 kl) (.int .i64 kh) (.slice ka kn' kd) (.slice kb km kp)) := HB1.out.at hb3
    have hbw3 : Below w.heap.size w w3 := bt hbw hb3
    clear HB1 hb3
    cases r with
    | error er =>
      obtain rfl : e = .panicked (chn er) := he
      go_wp2
      exact ⟨rfl, rfl, hbw3⟩
    | ok bb =>
      obtain ⟨b1, b2, b3⟩ := bb
      obtain rfl : e = .returned (.agg #[.int .i64 b1, .int .i64 b2, .int .i64 b3]) := he
      have s0 := HB3.out.e0.c
      have s1 := HB3.out.e1.c
      have s2 := HB3.out.e2.c
      have f0 := HB3.out.e0.f
      have f1 := HB3.out.e1.f
      have f2 := HB3.out.e2.f
      go_wp2
      exact bodyPost_ret (v := .agg #[.int .i64 b1, .int .i64 b2, .int .i64 b3]) (by simp [results, Try.results22, go_sem, s0, s1, s2]) rfl ⟨rfl, bs3 hbw3 (Nat.le_succ _) _ _ _⟩
  · obtain rfl : Except.error ec = r := by rw [← HR.out, typ, HEC.out, if_neg he]
    go_wp2_with fail
    refine (check_no ec he w1).mono ?_
    rintro e w2 ⟨rfl, rfl⟩
    go_wp2
    exact ⟨rfl, rfl, hbw⟩

/-- a question in a box -/
structure Bx (W : World) (N : Nat) (v0 v1 v2 v3 v4 v5 : Value) : Prop where
  a0 : Cl W N 0 v0
  a1 : Cl W N 1 v1
  a2 : Cl W N 2 v2
  a3 : Cl W N 3 v3
  a4 : Cl W N 4 v4
  a5 : Cl W N 5 v5
theorem Bx.at {W W' : World} {N : Nat} {v0 v1 v2 v3 v4 v5 : Value} (h : Bx W N v0 v1 v2 v3 v4 v5) (hb : Below W.heap.size W W') : Bx W' N v0 v1 v2 v3 v4 v5 := ⟨h.a0.at hb, h.a1.at hb, h.a2.at hb, h.a3.at hb, h.a4.at hb, h.a5.at hb⟩
theorem Bx.new (W : World) (N : Nat) (hN : N = W.heap.size) (v0 v1 v2 v3 v4 v5 : Value) : Bx (W.alloc (.cells #[v0, v1, v2, v3, v4, v5] 26)) N v0 v1 v2 v3 v4 v5 := by
  constructor <;> exact Cl.new _ 26 _ _ hN rfl

set_option maxHeartbeats 1000000 in
set_option maxRecDepth 100000 in
theorem type1_any (l : List Col) (q : Qu) (w : World) (B L N : Nat) (lv v0 v1 v2 v3 v4 v5 : Value) (r : Except Int Bnd) (hB : B ≤ w.heap.size) (hp : Cols w B lv l) (hq : Qm w B q v0 v1 v2 v3 v4 v5) (hr : typ l q = r) (hL : Cl w L 0 lv) (hN : Bx w N v0 v1 v2 v3 v4 v5) :
    Calls Try.prog 21 #[.pointer (some ⟨L, 0, none⟩), .pointer (some ⟨N, 0, none⟩)] w fun e w' => e = endB r ∧ Below w.heap.size w w' := by
  have hb0 := ba w (.cells #[.int .i64 0, .int .i64 0, .int .i64 0] 28)
  have k1 := typed_any l q (w.alloc (.cells #[.int .i64 0, .int .i64 0, .int .i64 0] 28)) B lv v0 v1 v2 v3 v4 v5 r (Nat.le_trans hB hb0.size) (hp.at hB hb0) (hq.at hB hb0) hr
  obtain ⟨la, lc, rfl, _⟩ := hp.slice
  obtain ⟨kk, kc, kl, kh, ka, kn', kd, kb, km, kp, rfl, rfl, rfl, rfl, rfl, rfl⟩ := hq.shape
  have hL2 := hL.at hb0
  have hN2 := hN.at hb0
  have m0 := hN2.a0.c
  have m1 := hN2.a1.c
  have m2 := hN2.a2.c
  have m3 := hN2.a3.c
  have m4 := hN2.a4.c
  have m5 := hN2.a5.c
  have m6 := hL2.c
  clear hp hq hr hL hN hL2 hN2
  go_enter Try.func21, Try.ntmps21
  go_wp2_with fail
  refine k1.mono ?_
  rintro e w1 ⟨he, hb1⟩
  clear k1 m0 m1 m2 m3 m4 m5 m6
  have a0 := (Cl.new (w := w) #[.int .i64 0, .int .i64 0, .int .i64 0] 28 0 _ rfl rfl).at hb1
  have a1 := (Cl.new (w := w) #[.int .i64 0, .int .i64 0, .int .i64 0] 28 1 _ rfl rfl).at hb1
  have a2 := (Cl.new (w := w) #[.int .i64 0, .int .i64 0, .int .i64 0] 28 2 _ rfl rfl).at hb1
  have hbw : Below w.heap.size w w1 := bt hb0 hb1
  clear hb0 hb1
  have s0 := a0.c
  have s1 := a1.c
  have s2 := a2.c
  have f0 := a0.f
  have f1 := a1.f
  have f2 := a2.f
  cases r with
  | error er =>
    obtain rfl : e = .panicked (chn er) := he
    go_wp2
    exact ⟨rfl, rfl, hbw⟩
  | ok bb =>
    obtain ⟨b1, b2, b3⟩ := bb
    obtain rfl : e = .returned (.agg #[.int .i64 b1, .int .i64 b2, .int .i64 b3]) := he
    go_wp2
    exact bodyPost_ret (v := .agg #[.int .i64 b1, .int .i64 b2, .int .i64 b3]) (by simp [results, Try.results21, go_sem, s0, s1, s2]) rfl ⟨rfl, bs3 hbw (Nat.le_refl _) _ _ _⟩

/-- what Type answers: a bound and what is wrong -/
def typV : Except Int Bnd → Bnd × Int
  | .error e => ((0, 0, 0), e)
  | .ok b => (b, 0)
set_option maxHeartbeats 1000000 in
set_option maxRecDepth 100000 in
theorem type_any (l : List Col) (q : Qu) (w : World) (B : Nat) (lv v0 v1 v2 v3 v4 v5 : Value) (b1 b2 b3 er : Int) (hB : B ≤ w.heap.size) (hp : Cols w B lv l) (hq : Qm w B q v0 v1 v2 v3 v4 v5) (hr : typV (typ l q) = ((b1, b2, b3), er)) :
    Calls Try.prog 8 #[lv, .agg #[v0, v1, v2, v3, v4, v5]] w fun e w' => e = .returned (.tuple #[.agg #[.int .i64 b1, .int .i64 b2, .int .i64 b3], .int .i64 er]) ∧ Below w.heap.size w w' := by
  have hb0 : Below w.heap.size w (((w.alloc (.cells #[lv] 22)).alloc (.cells #[v0, v1, v2, v3, v4, v5] 26)).alloc (.cells #[.int .i64 0, .int .i64 0, .int .i64 0] 28)) := bal (bal (ba _ _) _) _
  have hL : Cl (((w.alloc (.cells #[lv] 22)).alloc (.cells #[v0, v1, v2, v3, v4, v5] 26)).alloc (.cells #[.int .i64 0, .int .i64 0, .int .i64 0] 28)) w.heap.size 0 lv := ((Cl.new _ 22 _ _ rfl rfl).at (ba _ _)).at (ba _ _)
  have hN : Bx (((w.alloc (.cells #[lv] 22)).alloc (.cells #[v0, v1, v2, v3, v4, v5] 26)).alloc (.cells #[.int .i64 0, .int .i64 0, .int .i64 0] 28)) (w.heap.size + 1) v0 v1 v2 v3 v4 v5 := (Bx.new _ _ (by simp) _ _ _ _ _ _).at (ba _ _)
  have kc : Calls Try.prog 20 #[.func (.func 21) #[] #[.pointer (some ⟨w.heap.size, 0, none⟩), .pointer (some ⟨w.heap.size + 1, 0, none⟩)]] (((w.alloc (.cells #[lv] 22)).alloc (.cells #[v0, v1, v2, v3, v4, v5] 26)).alloc (.cells #[.int .i64 0, .int .i64 0, .int .i64 0] 28)) fun e w' => e = .returned (.tuple #[.agg #[.int .i64 b1, .int .i64 b2, .int .i64 b3], .int .i64 er]) ∧ Below (((w.alloc (.cells #[lv] 22)).alloc (.cells #[v0, v1, v2, v3, v4, v5] 26)).alloc (.cells #[.int .i64 0, .int .i64 0, .int .i64 0] 28)).heap.size (((w.alloc (.cells #[lv] 22)).alloc (.cells #[v0, v1, v2, v3, v4, v5] 26)).alloc (.cells #[.int .i64 0, .int .i64 0, .int .i64 0] 28)) w' := by
    generalize hW : (((w.alloc (.cells #[lv] 22)).alloc (.cells #[v0, v1, v2, v3, v4, v5] 26)).alloc (.cells #[.int .i64 0, .int .i64 0, .int .i64 0] 28)) = W at *
    have inner : ∀ r, typ l q = r → ∀ W', Below W.heap.size W W' → W.heap.size + 2 ≤ W'.heap.size → Calls Try.prog 21 #[.pointer (some ⟨w.heap.size, 0, none⟩), .pointer (some ⟨w.heap.size + 1, 0, none⟩)] W' fun e w' => e = endB r ∧ Below W'.heap.size W' w' := by
      intro r hr W' hW' hs
      have hsz := hb0.size
      exact type1_any l q W' B _ _ lv v0 v1 v2 v3 v4 v5 r (by omega) ((hp.at hB hb0).at (by omega) hW') ((hq.at hB hb0).at (by omega) hW') hr (hL.at hW') (hN.at hW')
    cases ht : typ l q with
    | error e1 =>
      rw [ht] at hr
      simp only [typV, Prod.mk.injEq] at hr
      obtain ⟨⟨rfl, rfl, rfl⟩, rfl⟩ := hr
      exact caughtB_no _ e1 W (inner _ ht)
    | ok bb =>
      obtain ⟨c1, c2, c3⟩ := bb
      rw [ht] at hr
      simp only [typV, Prod.mk.injEq] at hr
      obtain ⟨⟨rfl, rfl, rfl⟩, rfl⟩ := hr
      exact caughtB_ok _ c1 c2 c3 W (inner _ ht)
  obtain ⟨la, lc, rfl, _⟩ := hp.slice
  obtain ⟨kk, kc', kl, kh, ka, kn', kd, kb, km, kp, rfl, rfl, rfl, rfl, rfl, rfl⟩ := hq.shape
  have hmf := hmf
  clear hp hq hr hL hN
  go_enter Try.func8, Try.ntmps8
  go_wp2_with fail
  refine kc.mono ?_
  rintro e w1 ⟨rfl, hb1⟩
  clear kc
  have a0 := (Cl.new (w := ((w.alloc (.cells #[.slice la l.length lc] 22)).alloc (.cells #[.int .i64 kk, .string kc', .int .i64 kl, .int .i64 kh, .slice ka kn' kd, .slice kb km kp] 26))) (N := w.heap.size + 1 + 1) #[.int .i64 0, .int .i64 0, .int .i64 0] 28 0 _ (by simp) rfl).at hb1
  have a1 := (Cl.new (w := ((w.alloc (.cells #[.slice la l.length lc] 22)).alloc (.cells #[.int .i64 kk, .string kc', .int .i64 kl, .int .i64 kh, .slice ka kn' kd, .slice kb km kp] 26))) (N := w.heap.size + 1 + 1) #[.int .i64 0, .int .i64 0, .int .i64 0] 28 1 _ (by simp) rfl).at hb1
  have a2 := (Cl.new (w := ((w.alloc (.cells #[.slice la l.length lc] 22)).alloc (.cells #[.int .i64 kk, .string kc', .int .i64 kl, .int .i64 kh, .slice ka kn' kd, .slice kb km kp] 26))) (N := w.heap.size + 1 + 1) #[.int .i64 0, .int .i64 0, .int .i64 0] 28 2 _ (by simp) rfl).at hb1
  have hbw : Below w.heap.size w w1 := bt hb0 hb1
  clear hb0 hb1
  have s0 := a0.c
  have s1 := a1.c
  have s2 := a2.c
  have f0 := a0.f
  have f1 := a1.f
  have f2 := a2.f
  go_wp2
  exact bodyPost_ret (v := .tuple #[.agg #[.int .i64 b1, .int .i64 b2, .int .i64 b3], .int .i64 er]) (by simp [results, Try.results8, go_sem, s0, s1, s2]) rfl ⟨rfl, bs3 hbw (by omega) _ _ _⟩
end Go.Proofs.Ytejeiahbnnechaa
