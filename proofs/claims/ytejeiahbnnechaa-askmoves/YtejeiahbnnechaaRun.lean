import Derived.Test.YtejeiahbnnechaaAnw
import Derived.Test.YtejeiahbnnechaaRbn
import Derived.Test.YtejeiahbnnechaaWro
namespace Go.Proofs.Ytejeiahbnnechaa
open Go.RowKit Go.Proofs.Ytejeiahbnnechaa.Ds

/-- what Run says -/
def runT (l : List Col) (rs : List (List Int)) (q : Qu) : Except Int (List Int) :=
  if wroE l rs = 0 then (match bnd l 1 q with | .ok _ => .ok (ans l rs q) | .error e => .error e) else .error (wroE l rs)
def RunQ (w : World) : Except Int (List Int) → Ending → World → Prop
  | .ok xs, e, w' => AnsP w xs e w'
  | .error c, e, w' => e = .panicked (chn c) ∧ Below w.heap.size w w'

set_option maxHeartbeats 2000000 in
set_option maxRecDepth 100000 in
theorem run1_any (l : List Col) (ts : List Rw) (q : Qu) (w : World) (B T N : Nat) (cv rv v0 v1 v2 v3 v4 v5 : Value) (r : Except Int (List Int)) (hB : B ≤ w.heap.size) (hp : Cols w B cv l) (hrw : Rws w B rv ts) (hq : Qm w B q v0 v1 v2 v3 v4 v5) (hr : runT l (rr ts) q = r) (hT0 : Cl w T 0 cv) (hT1 : Cl w T 1 rv) (hN : Bx w N v0 v1 v2 v3 v4 v5) :
    Calls Try.prog 32 #[.pointer (some ⟨T, 0, none⟩), .pointer (some ⟨N, 0, none⟩)] w (RunQ w r) := by
  have HP : Hid (Cols w B cv l) := hp
  have HRW : Hid (Rws w B rv ts) := hrw
  have HQ : Hid (Qm w B q v0 v1 v2 v3 v4 v5) := hq
  have HR : Hid (runT l (rr ts) q = r) := hr
  obtain ⟨la, lc, rfl, _⟩ := hp.slice
  obtain ⟨ra, rc, rfl, _⟩ := hrw.slice
  obtain ⟨kk, kc, kl, kh, ka, kn', kd, kb, km, kp, rfl, rfl, rfl, rfl, rfl, rfl⟩ := hq.shape
  have HT : Hid (Cl w T 0 (.slice la l.length lc) ∧ Cl w T 1 (.slice ra ts.length rc)) := ⟨hT0, hT1⟩
  have HN : Hid (Bx w N (.int .i64 kk) (.string kc) (.int .i64 kl) (.int .i64 kh) (.slice ka kn' kd) (.slice kb km kp)) := hN
  obtain ⟨ew, hew⟩ : ∃ ew, wroE l (rr ts) = ew := ⟨_, rfl⟩
  have k1 := wrong_any B _ _ l ts w hB hp hrw ew hew
  have HEW : Hid (wroE l (rr ts) = ew) := hew
  have m0 := hT0.c
  have m1 := hT1.c
  clear hp hrw hq hr hT0 hT1 hN hew
  go_enter Try.func32, Try.ntmps32
  go_wp2_with fail
  refine k1.mono ?_
  rintro e w1 ⟨rfl, hb1⟩
  clear k1 m0 m1
  have hs1 := hb1.size
  by_cases he : ew = 0
  · subst he
    obtain ⟨hce, hle, hok⟩ := wroE_ok HEW.out
    have hsz : Szs l := (colE_ok hce).2.2.1
    obtain ⟨rb, hrb⟩ : ∃ rb, bnd l 1 q = rb := ⟨_, rfl⟩
    have k2 := bound_any l hsz q 1 w1 B (.slice la l.length lc) _ _ _ _ _ _ rb (by decide) (by omega) (HP.out.at hB hb1) (HQ.out.at hB hb1) hrb
    have HRB : Hid (bnd l 1 q = rb) := hrb
    have HHH : Hid (Szs l ∧ ts.length ≤ 4096 ∧ ∀ r ∈ rr ts, RowOk l r) := ⟨hsz, by rw [← rr_len]; exact hle, hok⟩
    clear hrb hsz hce hle hok
    have hT1 := HT.out.1.at hb1
    have hN1 := HN.out.at hb1
    have m0 := hN1.a0.c
    have m1 := hN1.a1.c
    have m2 := hN1.a2.c
    have m3 := hN1.a3.c
    have m4 := hN1.a4.c
    have m5 := hN1.a5.c
    have m6 := hT1.c
    clear hT1 hN1
    go_wp2_with fail
    refine (check_ok w1).mono ?_
    rintro e w2 ⟨rfl, hw2⟩
    subst hw2
    go_wp2_with fail
    refine k2.mono ?_
    rintro e w3 ⟨he, hb3⟩
    clear k2 m0 m1 m2 m3 m4 m5 m6
    have hbw := bt hb1 hb3
    have hs3 := hbw.size
    cases rb with
    | error er =>
      obtain rfl : Except.error er = r := by rw [← HR.out, runT, if_pos HEW.out, HRB.out]
      obtain rfl : e = .panicked (chn er) := he
      go_wp2
      exact ⟨rfl, rfl, hbw⟩
    | ok bb =>
      obtain ⟨xs, hxs⟩ : ∃ xs, ans l (rr ts) q = xs := ⟨_, rfl⟩
      obtain rfl : Except.ok xs = r := by rw [← HR.out, runT, if_pos HEW.out, HRB.out, hxs]
      obtain ⟨b1, b2, b3⟩ := bb
      obtain rfl : e = .returned (.agg #[.int .i64 b1, .int .i64 b2, .int .i64 b3]) := he
      have k3 := answer_any HHH.out.1 HHH.out.2.1 HHH.out.2.2 q 1 w3 B _ _ _ _ _ _ _ _ _ (by omega) (HP.out.at hB hbw) (HRW.out.at hB hbw) (HQ.out.at hB hbw) HRB.out
      have hT1 := HT.out.1.at hbw
      have hT2 := HT.out.2.at hbw
      have hN1 := HN.out.at hbw
      have m0 := hN1.a0.c
      have m1 := hN1.a1.c
      have m2 := hN1.a2.c
      have m3 := hN1.a3.c
      have m4 := hN1.a4.c
      have m5 := hN1.a5.c
      have m6 := hT1.c
      have m7 := hT2.c
      clear hT1 hT2 hN1
      rw [hxs] at k3
      clear hxs HR
      go_wp2_with fail
      refine k3.mono ?_
      rintro e w4 ⟨g, c4, rfl, hA, hb4⟩
      clear k3
      go_wp2
      go_ret
      exact AnsP.up ⟨g, c4, rfl, hA, hb4⟩ hbw
  · obtain rfl : Except.error ew = r := by rw [← HR.out, runT, HEW.out, if_neg he]
    go_wp2_with fail
    refine (check_no ew he w1).mono ?_
    rintro e w2 ⟨rfl, rfl⟩
    go_wp2
    exact ⟨rfl, rfl, hb1⟩

/-- what Run answers -/
def runV : Except Int (List Int) → List Int × Int
  | .error e => ([], e)
  | .ok xs => (xs, 0)
def RunP (w : World) (xs : List Int) (er : Int) (e : Ending) (w' : World) : Prop :=
  ∃ a c, e = .returned (.tuple #[.slice a xs.length c, .int .i64 er]) ∧ Ints w' w'.heap.size w'.heap.size (.slice a xs.length c) xs ∧ Below w.heap.size w w'
set_option maxHeartbeats 1000000 in
set_option maxRecDepth 100000 in
theorem askRun_any (l : List Col) (ts : List Rw) (q : Qu) (w : World) (B : Nat) (cv rv v0 v1 v2 v3 v4 v5 : Value) (xs : List Int) (er : Int) (hB : B ≤ w.heap.size) (hp : Cols w B cv l) (hrw : Rws w B rv ts) (hq : Qm w B q v0 v1 v2 v3 v4 v5) (hr : runV (runT l (rr ts) q) = (xs, er)) :
    Calls Try.prog 12 #[.agg #[cv, rv], .agg #[v0, v1, v2, v3, v4, v5]] w (RunP w xs er) := by
  have hb0 : Below w.heap.size w ((w.alloc (.cells #[cv, rv] 37)).alloc (.cells #[v0, v1, v2, v3, v4, v5] 26)) := bal (ba _ _) _
  have hT0 : Cl ((w.alloc (.cells #[cv, rv] 37)).alloc (.cells #[v0, v1, v2, v3, v4, v5] 26)) w.heap.size 0 cv := (Cl.new _ 37 _ _ rfl rfl).at (ba _ _)
  have hT1 : Cl ((w.alloc (.cells #[cv, rv] 37)).alloc (.cells #[v0, v1, v2, v3, v4, v5] 26)) w.heap.size 1 rv := (Cl.new _ 37 _ _ rfl rfl).at (ba _ _)
  have hN : Bx ((w.alloc (.cells #[cv, rv] 37)).alloc (.cells #[v0, v1, v2, v3, v4, v5] 26)) (w.heap.size + 1) v0 v1 v2 v3 v4 v5 := Bx.new _ _ (by simp) _ _ _ _ _ _
  have kc : Calls Try.prog 31 #[.func (.func 32) #[] #[.pointer (some ⟨w.heap.size, 0, none⟩), .pointer (some ⟨w.heap.size + 1, 0, none⟩)]] ((w.alloc (.cells #[cv, rv] 37)).alloc (.cells #[v0, v1, v2, v3, v4, v5] 26)) (RunP ((w.alloc (.cells #[cv, rv] 37)).alloc (.cells #[v0, v1, v2, v3, v4, v5] 26)) xs er) := by
    generalize hW : ((w.alloc (.cells #[cv, rv] 37)).alloc (.cells #[v0, v1, v2, v3, v4, v5] 26)) = W at *
    have inner : ∀ r, runT l (rr ts) q = r → ∀ W', Below W.heap.size W W' → W.heap.size + 1 ≤ W'.heap.size → Calls Try.prog 32 #[.pointer (some ⟨w.heap.size, 0, none⟩), .pointer (some ⟨w.heap.size + 1, 0, none⟩)] W' (RunQ W' r) := by
      intro r hr W' hW' hs
      have hsz := hb0.size
      exact run1_any l ts q W' B _ _ cv rv v0 v1 v2 v3 v4 v5 r (by omega) ((hp.at hB hb0).at (by omega) hW') ((hrw.at hB hb0).at (by omega) hW') ((hq.at hB hb0).at (by omega) hW') hr (hT0.at hW') (hT1.at hW') (hN.at hW')
    cases ht : runT l (rr ts) q with
    | error e1 =>
      rw [ht] at hr
      simp only [runV, Prod.mk.injEq] at hr
      obtain ⟨rfl, rfl⟩ := hr
      refine (caughtL_no _ e1 W (inner _ ht)).mono ?_
      rintro e w' ⟨rfl, hb⟩
      exact ⟨none, 0, rfl, ⟨none, 0, rfl, Nat.le_refl _, by simp, fun h => absurd rfl h⟩, hb⟩
    | ok ys =>
      rw [ht] at hr
      simp only [runV, Prod.mk.injEq] at hr
      obtain ⟨rfl, rfl⟩ := hr
      refine (caughtL_ok _ (fun V w' => ∃ g c, V = .slice (some ⟨g, 0, none⟩) ys.length c ∧ Arw w' (W.heap.size + 1) g c ys) W fun W' h1 h2 => (inner _ ht W' h1 h2).mono fun e w' h => ?_).mono ?_
      · obtain ⟨g, c, rfl, hA, hb⟩ := h
        exact ⟨_, rfl, ⟨g, c, rfl, hA.mono h2⟩, hb⟩
      · rintro e w' ⟨V, w1, rfl, ⟨g, c, rfl, hA⟩, hb, rfl⟩
        have hg := hA.lt
        have hA2 := hA.oth (b := W.heap.size) (k := 0) (by omega) (.int .i64 0)
        refine ⟨some ⟨g, 0, none⟩, c, rfl, hA2.ints _ (Nat.ne_of_lt hA2.lt.2), bs hb (Nat.le_refl _) _⟩
  obtain ⟨la, lc, rfl, _⟩ := hp.slice
  obtain ⟨ra, rc, rfl, _⟩ := hrw.slice
  obtain ⟨kk, kc', kl, kh, ka, kn', kd, kb, km, kp, rfl, rfl, rfl, rfl, rfl, rfl⟩ := hq.shape
  have hmf := hmf
  clear hp hq hrw hr hT0 hT1 hN
  go_enter Try.func12, Try.ntmps12
  go_wp2_with fail
  refine kc.mono ?_
  rintro e w1 ⟨a, c, rfl, hI, hb1⟩
  clear kc
  have hbw : Below w.heap.size w w1 := bt hb0 hb1
  go_wp2
  exact bodyPost_ret (v := .tuple #[.slice a xs.length c, .int .i64 er]) (by simp [results, Try.results12, go_sem]) rfl ⟨a, c, rfl, hI, hbw⟩
end Go.Proofs.Ytejeiahbnnechaa
