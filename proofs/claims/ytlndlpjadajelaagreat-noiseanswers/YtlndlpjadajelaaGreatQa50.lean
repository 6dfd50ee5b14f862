import Derived.Test.YtlndlpjadajelaaGreatQa47
import Derived.Test.YtlndlpjadajelaaGreatQa49
import Derived.Test.YtlndlpjadajelaaGreatQa29
import Derived.Test.YtlndlpjadajelaaGreatQa38
import Derived.Test.YtlndlpjadajelaaGreatQa28
namespace Go.Proofs.YtlndlpjadajelaaGreat.K
open Go.RowKit Go.Proofs.YtlndlpjadajelaaGreat.K.Ds

/-- what Run says -/
def runT (l : List Col) (rs : List (List Int)) (q : Qu) : Except Int (List Int) :=
  if wroE l rs = 0 then (match bnd l 1 q with | .ok _ => .ok (ans l rs q) | .error e => .error e) else .error (wroE l rs)
def RunQ (w : World) : Except Int (List Int) → Ending → World → Prop
  | .ok xs, e, w' => AnsP w xs e w'
  | .error c, e, w' => e = .panicked (chn c) ∧ Below w.heap.size w w'

set_option maxHeartbeats 2000000 in
set_option maxRecDepth 100000 in
theorem run1_any (l : List Col) (ts : List Rw) (q : Qu) (w : World) (B T N : Nat) (cv rv v0 v1 v2 v3 v4 v5 : Value) (r : Except Int (List Int)) (hB : B ≤ w.heap.size) (hp : Cols w B cv l) (hrw : Rws w B rv ts) (hq : Qm w B q v0 v1 v2 v3 v4 v5) (hr : runT l (rr ts) q = r) (hT0 : Cl w T 0 cv) (hT1 : Cl w T 1 rv) (hN : Bx w N v0 v1 v2 v3 v4 v5) :
    Calls Tryz.prog 69 #[.pointer (some ⟨T, 0, none⟩), .pointer (some ⟨N, 0, none⟩)] w (RunQ w r) := by
  have HP : Hid (Cols w B cv l) := hp
  have HRW : Hid (Rws w B rv ts) := hrw
  have HQ : Hid (Qm w B q v0 v1 v2 v3 v4 v5) := hq
  have HR : Hid (runT l (rr ts) q = r) := hr
  obtain ⟨la, lc, rfl, _⟩ := hp.slice
  obtain ⟨ra, rc, rfl, _⟩ := hrw.slice
  obtain ⟨kk, kc, kl, kh, ka, kn', kd, kb, km, kp, rfl, rfl, rfl, rfl, rfl, rfl⟩ := hq.shape
  have HT : Hid (Cl w T 0 (.slice la l.length lc) ∧ Cl w T 1 (.slice ra ts.length rc)) := ⟨hT0, hT1⟩
  have HN : Hid (Bx w N (.int .i64 kk) (.string kc) (.int .i64 kl) (.int .i64 kh) (.slice ka kn' kd) (.slice kb km kp)) := hN
  obtain ⟨ew, hew⟩ : ∃ ew, wroE l (rr ts) = ew := ⟨_, rfl⟩
  have k1 := wrong_any B _ _ l ts w hB hp hrw ew hew
  have HEW : Hid (wroE l (rr ts) = ew) := hew
  have m0 := hT0.c
  have m1 := hT1.c
  clear hp hrw hq hr hT0 hT1 hN hew
  go_enter Tryz.func69, Tryz.ntmps69
  go_wp2_with fail
  refine k1.mono ?_
  rintro e w1 ⟨rfl, hb1⟩
  clear k1 m0 m1
  have hs1 := hb1.size
  by_cases he : ew = 0
  · subst he
    obtain ⟨hce, hle, hok⟩ := wroE_ok HEW.out
    have hsz : Szs l := (colE_ok hce).2.2.1
    obtain ⟨rb, hrb⟩ : ∃ rb, bnd l 1 q = rb := ⟨_, rfl⟩
    have k2 := bound_any l hsz q 1 w1 B (.slice la l.length lc) _ _ _ _ _ _ rb (by decide) (by omega) (HP.out.at hB hb1) (HQ.out.at hB hb1) hrb
    have HRB : Hid (bnd l 1 q = rb) := hrb
    have HHH : Hid (Szs l ∧ ts.length ≤ 4096 ∧ ∀ r ∈ rr ts, RowOk l r) := ⟨hsz, by rw [← rr_len]; exact hle, hok⟩
    clear hrb hsz hce hle hok
    have hT1 := HT.out.1.at hb1
    have hN1 := HN.out.at hb1
    have m0 := hN1.a0.c
    have m1 := hN1.a1.c
    have m2 := hN1.a2.c
    have m3 := hN1.a3.c
    have m4 := hN1.a4.c
    have m5 := hN1.a5.c
    have m6 := hT1.c
    clear hT1 hN1
    go_wp2_with fail
    refine (check_ok w1).mono ?_
    rintro e w2 ⟨rfl, hw2⟩
    subst hw2
    go_wp2_with fail
    refine k2.mono ?_
    rintro e w3 ⟨he, hb3⟩
    clear k2 m0 m1 m2 m3 m4 m5 m6
    have hbw := bt hb1 hb3
    have hs3 := hbw.size
    cases rb with
    | error er =>
      obtain rfl : Except.error er = r := by rw [← HR.out, runT, if_pos HEW.out, HRB.out]
      obtain rfl : e = .panicked (chn er) := he
      go_wp2
      exact ⟨rfl, rfl, hbw⟩
    | ok bb =>
      obtain ⟨xs, hxs⟩ : ∃ xs, ans l (rr ts) q = xs := ⟨_, rfl⟩
      obtain rfl : Except.ok xs = r := by rw [← HR.out, runT, if_pos HEW.out, HRB.out, hxs]
      obtain ⟨b1, b2, b3⟩ := bb
      obtain rfl : e = .returned (.agg #[.int .i64 b1, .int .i64 b2, .int .i64 b3]) := he
      have k3 := answer_any HHH.out.1 HHH.out.2.1 HHH.out.2.2 q 1 w3 B _ _ _ _ _ _ _ _ _ (by omega) (HP.out.at hB hbw) (HRW.out.at hB hbw) (HQ.out.at hB hbw) HRB.out
      have hT1 := HT.out.1.at hbw
      have hT2 := HT.out.2.at hbw
      have hN1 := HN.out.at hbw
      have m0 := hN1.a0.c
      have m1 := hN1.a1.c
      have m2 := hN1.a2.c
      have m3 := hN1.a3.c
      have m4 := hN1.a4.c
      have m5 := hN1.a5.c
      have m6 := hT1.c
      have m7 := hT2.c
      clear hT1 hT2 hN1
      rw [hxs] at k3
      clear hxs HR
      go_wp2_with fail
      refine k3.mono ?_
      rintro e w4 ⟨g, c4, rfl, hA, hb4⟩
      clear k3
      go_wp2
      go_ret
      exact AnsP.up ⟨g, c4, rfl, hA, hb4⟩ hbw
  · obtain rfl : Except.error ew = r := by rw [← HR.out, runT, HEW.out, if_neg he]
    go_wp2_with fail
    refine (check_no ew he w1).mono ?_
    rintro e w2 ⟨rfl, rfl⟩
    go_wp2
    exact ⟨rfl, rfl, hb1⟩

/-- what Run answers -/
def runV : Except Int (List Int) → List Int × Int
  | .error e => ([], e)
  | .ok xs => (xs, 0)
def RunP (w : World) (xs : List Int) (er : Int) (e : Ending) (w' : World) : Prop :=
  ∃ a c, e = .returned (.tuple #[.slice a xs.length c, .int .i64 er]) ∧ Ints w' w'.heap.size w'.heap.size (.slice a xs.length c) xs ∧ Below w.heap.size w w'
set_option maxHeartbeats 1000000 in
set_option maxRecDepth 100000 in
theorem askRun_any (l : List Col) (ts : List Rw) (q : Qu) (w : World) (B : Nat) (cv rv v0 v1 v2 v3 v4 v5 : Value) (xs : List Int) (er : Int) (hB : B ≤ w.heap.size) (hp : Cols w B cv l) (hrw : Rws w B rv ts) (hq : Qm w B q v0 v1 v2 v3 v4 v5) (hr : runV (runT l (rr ts) q) = (xs, er)) :
    Calls Tryz.prog 27 #[.agg #[cv, rv], .agg #[v0, v1, v2, v3, v4, v5]] w (RunP w xs er) := by
  have hb0 : Below w.heap.size w ((w.alloc (.cells #[cv, rv] 27)).alloc (.cells #[v0, v1, v2, v3, v4, v5] 31)) := bal (ba _ _) _
  have hT0 : Cl ((w.alloc (.cells #[cv, rv] 27)).alloc (.cells #[v0, v1, v2, v3, v4, v5] 31)) w.heap.size 0 cv := (Cl.new _ 27 _ _ rfl rfl).at (ba _ _)
  have hT1 : Cl ((w.alloc (.cells #[cv, rv] 27)).alloc (.cells #[v0, v1, v2, v3, v4, v5] 31)) w.heap.size 1 rv := (Cl.new _ 27 _ _ rfl rfl).at (ba _ _)
  have hN : Bx ((w.alloc (.cells #[cv, rv] 27)).alloc (.cells #[v0, v1, v2, v3, v4, v5] 31)) (w.heap.size + 1) v0 v1 v2 v3 v4 v5 := Bx.new _ _ (by simp) _ _ _ _ _ _
  have kc : Calls Tryz.prog 68 #[.func (.func 69) #[] #[.pointer (some ⟨w.heap.size, 0, none⟩), .pointer (some ⟨w.heap.size + 1, 0, none⟩)]] ((w.alloc (.cells #[cv, rv] 27)).alloc (.cells #[v0, v1, v2, v3, v4, v5] 31)) (RunP ((w.alloc (.cells #[cv, rv] 27)).alloc (.cells #[v0, v1, v2, v3, v4, v5] 31)) xs er) := by
    generalize hW : ((w.alloc (.cells #[cv, rv] 27)).alloc (.cells #[v0, v1, v2, v3, v4, v5] 31)) = W at *
    have inner : ∀ r, runT l (rr ts) q = r → ∀ W', Below W.heap.size W W' → W.heap.size + 1 ≤ W'.heap.size → Calls Tryz.prog 69 #[.pointer (some ⟨w.heap.size, 0, none⟩), .pointer (some ⟨w.heap.size + 1, 0, none⟩)] W' (RunQ W' r) := by
      intro r hr W' hW' hs
      have hsz := hb0.size
      exact run1_any l ts q W' B _ _ cv rv v0 v1 v2 v3 v4 v5 r (by omega) ((hp.at hB hb0).at (by omega) hW') ((hrw.at hB hb0).at (by omega) hW') ((hq.at hB hb0).at (by omega) hW') hr (hT0.at hW') (hT1.at hW') (hN.at hW')
    cases ht : runT l (rr ts) q with
    | error e1 =>
      rw [ht] at hr
      simp only [runV, Prod.mk.injEq] at hr
      obtain ⟨rfl, rfl⟩ := hr
      refine (caughtL_no _ e1 W (inner _ ht)).mono ?_
      rintro e w' ⟨rfl, hb⟩
      exact ⟨none, 0, rfl, ⟨none, 0, rfl, Nat.le_refl _, by simp, fun h => absurd rfl h⟩, hb⟩
    | ok ys =>
      rw [ht] at hr
      simp only [runV, Prod.mk.injEq] at hr
      obtain ⟨rfl, rfl⟩ := hr
      refine (caughtL_ok _ (fun V w' => ∃ g c, V = .slice (some ⟨g, 0, none⟩) ys.length c ∧ Arw w' (W.heap.size + 1) g c ys) W fun W' h1 h2 => (inner _ ht W' h1 h2).mono fun e w' h => ?_).mono ?_
      · obtain ⟨g, c, rfl, hA, hb⟩ := h
        exact ⟨_, rfl, ⟨g, c, rfl, hA.mono h2⟩, hb⟩
      · rintro e w' ⟨V, w1, rfl, ⟨g, c, rfl, hA⟩, hb, rfl⟩
        have hg := hA.lt
        have hA2 := hA.oth (b := W.heap.size) (k := 0) (by omega) (.int .i64 0)
        refine ⟨some ⟨g, 0, none⟩, c, rfl, hA2.ints _ (Nat.ne_of_lt hA2.lt.2), bs hb (Nat.le_refl _) _⟩
  obtain ⟨la, lc, rfl, _⟩ := hp.slice
  obtain ⟨ra, rc, rfl, _⟩ := hrw.slice
  obtain ⟨kk, kc', kl, kh, ka, kn', kd, kb, km, kp, rfl, rfl, rfl, rfl, rfl, rfl⟩ := hq.shape
  have hmf := hmf
  clear hp hq hrw hr hT0 hT1 hN
  go_enter Tryz.func27, Tryz.ntmps27
  go_wp2_with fail
  refine kc.mono ?_
  rintro e w1 ⟨a, c, rfl, hI, hb1⟩
  clear kc
  have hbw : Below w.heap.size w w1 := bt hb0 hb1
  go_wp2
  exact bodyPost_ret (v := .tuple #[.slice a xs.length c, .int .i64 er]) (by simp [results, Tryz.results27, go_sem]) rfl ⟨a, c, rfl, hI, hbw⟩
end Go.Proofs.YtlndlpjadajelaaGreat.K

namespace Go.Proofs.YtlndlpjadajelaaGreat.K.Ds
end Go.Proofs.YtlndlpjadajelaaGreat.K.Ds
namespace Go.Proofs.YtlndlpjadajelaaGreat.K
open Go.RowKit Go.Proofs.YtlndlpjadajelaaGreat.K.Ds

set_option maxHeartbeats 1000000 in
set_option maxRecDepth 100000 in
theorem rtype_any (l : List Col) (q : Qu) (w : World) (B : Nat) (lv v0 v1 v2 v3 v4 v5 : Value) (b1 b2 b3 er : Int) (hB : B ≤ w.heap.size) (hp : Cols w B lv l) (hq : Qm w B q v0 v1 v2 v3 v4 v5) (hr : typV (typ l q) = ((b1, b2, b3), er)) :
    Calls Tryz.prog 32 #[lv, .agg #[v0, v1, v2, v3, v4, v5]] w fun e w' => e = .returned (.tuple #[.agg #[.int .i64 b1, .int .i64 b2, .int .i64 b3], .int .i64 er]) ∧ Below w.heap.size w w' := by
  have HP : Hid (Cols w B lv l) := hp
  have HQ : Hid (Qm w B q v0 v1 v2 v3 v4 v5) := hq
  have HR : Hid (typV (typ l q) = ((b1, b2, b3), er)) := hr
  obtain ⟨la, lc, rfl, _⟩ := hp.slice
  obtain ⟨kk, kc, kl, kh, ka, kn', kd, kb, km, kp, rfl, rfl, rfl, rfl, rfl, rfl⟩ := hq.shape
  obtain ⟨ec, hec⟩ : ∃ ec, colE l = ec := ⟨_, rfl⟩
  have bq := Bq.new w (.int .i64 kk) (.string kc) (.int .i64 kl) (.int .i64 kh) (.slice ka kn' kd) (.slice kb km kp)
  have hb0 : Below w.heap.size w ((w.alloc (.cells #[.int .i64 kk, .string kc, .int .i64 kl, .int .i64 kh, .slice ka kn' kd, .slice kb km kp] 31)).alloc (.cells #[.int .i64 0, .int .i64 0, .int .i64 0] 61)) := bal (ba _ _) _
  have k1 := rcolumns_any B _ l _ (Nat.le_trans hB hb0.size) (hp.at hB hb0) ec hec
  have HEC : Hid (colE l = ec) := hec
  clear hp hq hr hec
  go_enter Tryz.func32, Tryz.ntmps32
  go_wp2_with fail
  refine k1.mono ?_
  rintro e w1 ⟨rfl, hb1⟩
  clear k1
  have hbw : Below w.heap.size w w1 := bt hb0 hb1
  have HB1 : Hid (Bq w1 w.heap.size (.int .i64 kk) (.string kc) (.int .i64 kl) (.int .i64 kh) (.slice ka kn' kd) (.slice kb km kp)) := bq.at hb1
  clear bq hb0 hb1
  by_cases he : ec = 0
  · subst he
    have HT : Hid (typV (bnd l 1 q) = ((b1, b2, b3), er)) := by have := HR.out; rwa [typ, if_pos HEC.out] at this
    have hsz := hbw.size
    have k2 := rbound_any l (colE_ok HEC.out).2.2.1 q 1 w1 B (.slice la l.length lc) _ _ _ _ _ _ b1 b2 b3 er (by decide) (by omega) (HP.out.at hB hbw) (HQ.out.at hB hbw) HT.out
    have m0 := HB1.out.a0.c
    have m1 := HB1.out.a1.c
    have m2 := HB1.out.a2.c
    have m3 := HB1.out.a3.c
    have m4 := HB1.out.a4.c
    have m5 := HB1.out.a5.c
    go_wp2_with fail
    refine k2.mono ?_
    rintro e w3 ⟨rfl, hb3⟩
    clear k2 m0 m1 m2 m3 m4 m5
    have HB3 : Hid (Bq w3 w.heap.size (.int .i64 kk) (.string kc) (.int .i64 kl) (.int .i64 kh) (.slice ka kn' kd) (.slice kb km kp)) := HB1.out.at hb3
    have hbw3 : Below w.heap.size w w3 := bt hbw hb3
    clear HB1 hb3
    have s0 := HB3.out.e0.c
    have s1 := HB3.out.e1.c
    have s2 := HB3.out.e2.c
    have f0 := HB3.out.e0.f
    have f1 := HB3.out.e1.f
    have f2 := HB3.out.e2.f
    go_wp2
    exact bodyPost_ret (v := .tuple #[.agg #[.int .i64 b1, .int .i64 b2, .int .i64 b3], .int .i64 er]) (by simp [results, Tryz.results32, go_sem, s0, s1, s2]) rfl ⟨rfl, bs3 hbw3 (Nat.le_succ _) _ _ _⟩
  · have hv := HR.out
    rw [typ, HEC.out, if_neg he] at hv
    obtain ⟨rfl, rfl, rfl, rfl⟩ := typV_err hv
    clear hv
    have hne : (ec != 0) = true := by simpa using he
    have s0 := HB1.out.e0.c
    have s1 := HB1.out.e1.c
    have s2 := HB1.out.e2.c
    have f0 := HB1.out.e0.f
    have f1 := HB1.out.e1.f
    have f2 := HB1.out.e2.f
    go_wp2
    exact bodyPost_ret (v := .tuple #[.agg #[.int .i64 0, .int .i64 0, .int .i64 0], .int .i64 ec]) (by simp [results, Tryz.results32, go_sem, s0, s1, s2]) rfl ⟨rfl, bs3 hbw (Nat.le_succ _) _ _ _⟩

theorem typV_split {r : Except Int Bnd} {b1 b2 b3 er : Int} (h : typV r = ((b1, b2, b3), er)) (hne : ∀ e, r = .error e → e ≠ 0) : (er = 0 ∧ r = .ok (b1, b2, b3)) ∨ (er ≠ 0 ∧ r = .error er) := by
  cases r with
  | error e =>
    obtain ⟨_, _, _, rfl⟩ := typV_err h
    exact .inr ⟨hne _ rfl, rfl⟩
  | ok b =>
    obtain ⟨c1, c2, c3⟩ := b
    obtain ⟨rfl, rfl, rfl, rfl⟩ := typV_ok h
    exact .inl ⟨rfl, rfl⟩
theorem typ_ne {l : List Col} {q : Qu} {e : Int} (h : typ l q = .error e) : e ≠ 0 := by
  unfold typ at h
  split at h
  · exact bnd_ne q _ _ h
  · cases h; assumption

end Go.Proofs.YtlndlpjadajelaaGreat.K

namespace Go.Proofs.YtlndlpjadajelaaGreat.K
open Go.RowKit Go.Proofs.YtlndlpjadajelaaGreat.K.Ds

def liveL : List Col := [(⟨#[97]⟩, 2)]
def liveQ : Qu := .node 1 ⟨#[]⟩ 0 0 [] 0 .none .none
theorem live_typ : typV (typ liveL liveQ) = ((1, 1, 4096), 0) := by
  have h1 : colE liveL = 0 := by decide
  have h2 : bnd liveL 1 liveQ = .ok (1, 1, 4096) := by simp [bnd, liveQ, kidN, ifK, rec, ifW, whE, tsE, lim, limB]
  rw [typ, if_pos h1, h2]
  rfl
theorem runT_typ {l : List Col} {rs : List (List Int)} {q : Qu} (h : wroE l rs = 0) : runT l rs q = match typ l q with | .ok _ => .ok (ans l rs q) | .error e => .error e := by
  rw [runT, if_pos h, typ, if_pos (wroE_ok h).1]
  all_goals (cases bnd l 1 q <;> rfl)

end Go.Proofs.YtlndlpjadajelaaGreat.K

namespace Go.Proofs.YtlndlpjadajelaaGreat.K
open Go.RowKit Go.Proofs.YtlndlpjadajelaaGreat.K.Ds

theorem typ_ok {l : List Col} {q : Qu} {b : Bnd} (h : typ l q = .ok b) : colE l = 0 ∧ bnd l 1 q = .ok b := by
  unfold typ at h
  split at h
  · exact ⟨by assumption, h⟩
  · cases h

set_option maxHeartbeats 2000000 in
set_option maxRecDepth 100000 in
theorem rrun_any (l : List Col) (ts : List Rw) (q : Qu) (w : World) (B : Nat) (cv rv v0 v1 v2 v3 v4 v5 : Value) (xs : List Int) (er : Int) (hB : B ≤ w.heap.size) (hp : Cols w B cv l) (hrw : Rws w B rv ts) (hq : Qm w B q v0 v1 v2 v3 v4 v5) (hr : runV (runT l (rr ts) q) = (xs, er)) :
    Calls Tryz.prog 30 #[.agg #[cv, rv], .agg #[v0, v1, v2, v3, v4, v5]] w (RunP w xs er) := by
  have HP : Hid (Cols w B cv l) := hp
  have HRW : Hid (Rws w B rv ts) := hrw
  have HQ : Hid (Qm w B q v0 v1 v2 v3 v4 v5) := hq
  have HR : Hid (runV (runT l (rr ts) q) = (xs, er)) := hr
  obtain ⟨la, lc, rfl, _⟩ := hp.slice
  obtain ⟨ra, rc, rfl, _⟩ := hrw.slice
  obtain ⟨kk, kc, kl, kh, ka, kn', kd, kb, km, kp, rfl, rfl, rfl, rfl, rfl, rfl⟩ := hq.shape
  have hb0 : Below w.heap.size w ((w.alloc (.cells #[.slice la l.length lc, .slice ra ts.length rc] 27)).alloc (.cells #[.int .i64 kk, .string kc, .int .i64 kl, .int .i64 kh, .slice ka kn' kd, .slice kb km kp] 31)) := bal (ba _ _) _
  have HT : Hid (Cl ((w.alloc (.cells #[.slice la l.length lc, .slice ra ts.length rc] 27)).alloc (.cells #[.int .i64 kk, .string kc, .int .i64 kl, .int .i64 kh, .slice ka kn' kd, .slice kb km kp] 31)) w.heap.size 0 (.slice la l.length lc) ∧ Cl ((w.alloc (.cells #[.slice la l.length lc, .slice ra ts.length rc] 27)).alloc (.cells #[.int .i64 kk, .string kc, .int .i64 kl, .int .i64 kh, .slice ka kn' kd, .slice kb km kp] 31)) w.heap.size 1 (.slice ra ts.length rc)) := ⟨(Cl.new _ 27 _ _ rfl rfl).at (ba _ _), (Cl.new _ 27 _ _ rfl rfl).at (ba _ _)⟩
  have HN : Hid (Bx ((w.alloc (.cells #[.slice la l.length lc, .slice ra ts.length rc] 27)).alloc (.cells #[.int .i64 kk, .string kc, .int .i64 kl, .int .i64 kh, .slice ka kn' kd, .slice kb km kp] 31)) (w.heap.size + 1) (.int .i64 kk) (.string kc) (.int .i64 kl) (.int .i64 kh) (.slice ka kn' kd) (.slice kb km kp)) := Bx.new _ _ (by simp) _ _ _ _ _ _
  obtain ⟨W0, hW0⟩ : ∃ W0, ((w.alloc (.cells #[.slice la l.length lc, .slice ra ts.length rc] 27)).alloc (.cells #[.int .i64 kk, .string kc, .int .i64 kl, .int .i64 kh, .slice ka kn' kd, .slice kb km kp] 31)) = W0 := ⟨_, rfl⟩
  rw [hW0] at hb0 HT HN
  obtain ⟨ew, hew⟩ : ∃ ew, wroE l (rr ts) = ew := ⟨_, rfl⟩
  have k1 := rwrong_any B _ _ l ts W0 (Nat.le_trans hB hb0.size) (HP.out.at hB hb0) (HRW.out.at hB hb0) ew hew
  have HEW : Hid (wroE l (rr ts) = ew) := hew
  have m0 := HT.out.1.c
  have m1 := HT.out.2.c
  clear hp hrw hq hr hew
  go_enter Tryz.func30, Tryz.ntmps30
  go_wp2_with fail
  refine k1.mono ?_
  rintro e w1 ⟨rfl, hb1⟩
  clear k1 m0 m1 hW0
  have hbw1 := bt hb0 hb1
  by_cases he : ew = 0
  · subst he
    have HT1 : Hid (Cl w1 w.heap.size 0 (.slice la l.length lc) ∧ Cl w1 w.heap.size 1 (.slice ra ts.length rc)) := ⟨HT.out.1.at hb1, HT.out.2.at hb1⟩
    have HN1 : Hid (Bx w1 (w.heap.size + 1) (.int .i64 kk) (.string kc) (.int .i64 kl) (.int .i64 kh) (.slice ka kn' kd) (.slice kb km kp)) := HN.out.at hb1
    obtain ⟨b1, b2, b3, te, hty⟩ : ∃ b1 b2 b3 te, typV (typ l q) = ((b1, b2, b3), te) := ⟨_, _, _, _, rfl⟩
    have k2 := rtype_any l q w1 B _ _ _ _ _ _ _ b1 b2 b3 te (Nat.le_trans hB hbw1.size) (HP.out.at hB hbw1) (HQ.out.at hB hbw1) hty
    have HTY : Hid (typV (typ l q) = ((b1, b2, b3), te)) := hty
    have m0 := HT1.out.1.c
    have m1 := HN1.out.a0.c
    have m2 := HN1.out.a1.c
    have m3 := HN1.out.a2.c
    have m4 := HN1.out.a3.c
    have m5 := HN1.out.a4.c
    have m6 := HN1.out.a5.c
    clear hty HT HN hb1
    go_wp2_with fail
    refine k2.mono ?_
    rintro e w2 ⟨rfl, hb2⟩
    clear k2 m0 m1 m2 m3 m4 m5 m6
    rcases typV_split HTY.out (fun e he => typ_ne he) with ⟨rfl, ht⟩ | ⟨hte, ht⟩
    · obtain ⟨hxs, rfl⟩ : ans l (rr ts) q = xs ∧ 0 = er := by
        have := HR.out
        rw [runT_typ HEW.out, ht] at this
        simp only [runV, Prod.mk.injEq] at this
        exact this
      obtain ⟨hce, hle, hok⟩ := wroE_ok HEW.out
      have HK : ∀ W, Below w1.heap.size w1 W → Calls Tryz.prog 77 #[.agg #[.slice la l.length lc, .slice ra ts.length rc], .agg #[.int .i64 kk, .string kc, .int .i64 kl, .int .i64 kh, .slice ka kn' kd, .slice kb km kp]] W (AnsR W xs) := fun W hW => by
        rw [← hxs]
        exact ranswer_any (colE_ok hce).2.2.1 (by rw [← rr_len]; exact hle) hok q 1 W B _ _ _ _ _ _ _ _ _ (Nat.le_trans hB (bt hbw1 hW).size) (HP.out.at hB (bt hbw1 hW)) (HRW.out.at hB (bt hbw1 hW)) (HQ.out.at hB (bt hbw1 hW)) (typ_ok ht).2
      have hb2' := bal hb2 (.cells #[.int .i64 b1, .int .i64 b2, .int .i64 b3] 61)
      obtain ⟨W2, hW2⟩ : ∃ W2, w2.alloc (.cells #[.int .i64 b1, .int .i64 b2, .int .i64 b3] 61) = W2 := ⟨_, rfl⟩
      rw [hW2] at hb2'
      have k3 := HK W2 hb2'
      have hT2 := HT1.out.1.at hb2'
      have hT3 := HT1.out.2.at hb2'
      have hN2 := HN1.out.at hb2'
      have m0 := hT2.c
      have m7 := hT3.c
      have m1 := hN2.a0.c
      have m2 := hN2.a1.c
      have m3 := hN2.a2.c
      have m4 := hN2.a3.c
      have m5 := hN2.a4.c
      have m6 := hN2.a5.c
      clear hT2 hT3 hN2 HK hxs hce hle hok ht
      go_wp2_with fail
      refine k3.mono ?_
      rintro e w3 ⟨a, c, rfl, hI, hb3⟩
      clear k3 hW2
      have hbw3 : Below w.heap.size w w3 := bt (bt hbw1 hb2') hb3
      go_wp2
      exact bodyPost_ret (v := .tuple #[.slice a xs.length c, .int .i64 0]) (by simp [results, Tryz.results30, go_sem]) rfl ⟨a, c, rfl, hI, hbw3⟩
    · obtain ⟨rfl, rfl⟩ : [] = xs ∧ te = er := by
        have := HR.out
        rw [runT_typ HEW.out, ht] at this
        simp only [runV, Prod.mk.injEq] at this
        exact this
      have hne : (te != 0) = true := by simpa using hte
      have hbw3 : Below w.heap.size w (w2.alloc (.cells #[.int .i64 b1, .int .i64 b2, .int .i64 b3] 61)) := bt hbw1 (bal hb2 _)
      clear ht
      go_wp2
      exact bodyPost_ret (v := .tuple #[.slice none 0 0, .int .i64 te]) (by simp [results, Tryz.results30, go_sem]) rfl ⟨none, 0, rfl, ⟨none, 0, rfl, Nat.le_refl _, by simp, fun h => absurd rfl h⟩, hbw3⟩
  · obtain ⟨rfl, rfl⟩ : [] = xs ∧ ew = er := by
      have := HR.out
      rw [runT, if_neg (by rw [HEW.out]; exact he), HEW.out] at this
      simp only [runV, Prod.mk.injEq] at this
      exact this
    have hne : (ew != 0) = true := by simpa using he
    go_wp2
    exact bodyPost_ret (v := .tuple #[.slice none 0 0, .int .i64 ew]) (by simp [results, Tryz.results30, go_sem]) rfl ⟨none, 0, rfl, ⟨none, 0, rfl, Nat.le_refl _, by simp, fun h => absurd rfl h⟩, hbw1⟩

end Go.Proofs.YtlndlpjadajelaaGreat.K

namespace Go.Proofs.YtlndlpjadajelaaGreat.K
open Go.RowKit Go.Proofs.YtlndlpjadajelaaGreat.K.Ds

/-- where a slice lies, if it lies anywhere -/
def Adr (P : Nat → Prop) (v : Value) : Prop := ∀ b o n c, v = .slice (some ⟨b, o, none⟩) n c → P b
theorem adr_nil (P : Nat → Prop) {n c : Nat} : Adr P (.slice none n c) := fun b o n c e => by simp at e
theorem Adr.imp {P P' : Nat → Prop} {v : Value} (h : Adr P v) (k : ∀ b, P b → P' b) : Adr P' v := fun b o n c e => k b (h b o n c e)
theorem adr_at {P : Nat → Prop} {b o n c : Nat} (h : P b) : Adr P (.slice (some ⟨b, o, none⟩) n c) := fun b' o' n' c' e => by
  simp only [Value.slice.injEq, Option.some.injEq, Addr.mk.injEq] at e
  rw [← e.1.1]; exact h
theorem Ints.gb {w w' : World} {B nb : Nat} {v : Value} {xs : List Int} {row : Option Nat} (h : Ints w B nb v xs) (hg : w.grownBy w' row) (ha : Adr (fun b => row ≠ some b) v) : Ints w' B nb v xs := by
  obtain ⟨a, c, hv, hc, hl, hx⟩ := h
  refine ⟨a, c, hv, hc, hl, fun hne => ?_⟩
  obtain ⟨b, o, e, hb, hn, hcell⟩ := hx hne
  refine ⟨b, o, e, hb, hn, fun i x hi => hg.cell (hcell i x hi) fun e2 => ?_⟩
  exact ha b o _ _ (by rw [hv, e]) e2.symm
theorem Cols.gb {w w' : World} {B : Nat} {v : Value} {l : List Col} {row : Option Nat} (h : Cols w B v l) (hg : w.grownBy w' row) (ha : Adr (fun b => row ≠ some b) v) : Cols w' B v l := by
  obtain ⟨a, c, hv, hc, hl, hn, hx⟩ := h
  refine ⟨a, c, hv, hc, hl, hn, fun hne => ?_⟩
  obtain ⟨b, o, e, hb, hcell⟩ := hx hne
  have hne2 : row ≠ some b := ha b o _ _ (by rw [hv, e])
  exact ⟨b, o, e, hb, fun i x hi => ⟨hg.cell (hcell i x hi).1 (fun e2 => hne2 e2.symm), hg.cell (hcell i x hi).2 (fun e2 => hne2 e2.symm)⟩⟩
/-- where rows lie -/
def AdrR (P : Nat → Prop) (v : Value) (ts : List Rw) : Prop := Adr P v ∧ ∀ t ∈ ts, Adr P t.1
theorem AdrR.imp {P P' : Nat → Prop} {v : Value} {ts : List Rw} (h : AdrR P v ts) (k : ∀ b, P b → P' b) : AdrR P' v ts := ⟨h.1.imp k, fun t ht => (h.2 t ht).imp k⟩
theorem Rws.gb {w w' : World} {B : Nat} {v : Value} {ts : List Rw} {row : Option Nat} (h : Rws w B v ts) (hg : w.grownBy w' row) (ha : AdrR (fun b => row ≠ some b) v ts) : Rws w' B v ts := by
  obtain ⟨a, c, hv, hc, hl, hi, hx⟩ := h
  refine ⟨a, c, hv, hc, hl, fun t ht => (hi t ht).gb hg (ha.2 t ht), fun hne => ?_⟩
  obtain ⟨b, o, e, hb, hcell⟩ := hx hne
  have hne2 : row ≠ some b := ha.1 b o _ _ (by rw [hv, e])
  exact ⟨b, o, e, hb, fun i t ht => hg.cell (hcell i t ht) (fun e2 => hne2 e2.symm)⟩
theorem Rwr.adr {w : World} {lo : Nat} {v : Value} {ts : List Rw} (h : Rwr w lo v ts) (hs : Som lo ts) : AdrR (fun b => lo ≤ b) v ts :=
  ⟨fun b o n c e => owns_block h.1 b (by rw [e]; obtain ⟨g, c', e', _⟩ := owns_some h.1 (by rw [e]; simp); rw [e] at e'; simp at e'; rw [e'.1.2]; rfl), fun t ht => by
    obtain ⟨b, o, n, c, e, hb⟩ := hs t ht
    rw [e]; exact adr_at hb⟩

end Go.Proofs.YtlndlpjadajelaaGreat.K
