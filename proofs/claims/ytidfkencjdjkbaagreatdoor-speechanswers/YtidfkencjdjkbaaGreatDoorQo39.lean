import Derived.Test.YtidfkencjdjkbaaGreatDoorQo38
import Derived.Test.YtidfkencjdjkbaaGreatDoorQo32
import Derived.Test.YtidfkencjdjkbaaGreatDoorQo37
import Derived.Deep.SlicePairs
import Derived.Deep.Slices
import Derived.ProofKit
import Derived.OpenShut
import Derived.Lib.SmallJoins
import Derived.Carry
namespace Go.Proofs.YtidfkencjdjkbaaGreatDoor.K
open Go.RowKit Go.Proofs.YtidfkencjdjkbaaGreatDoor.K.Ds

theorem Qm.ne {w : World} {B : Nat} {q : Qu} {v0 v1 v2 v3 v4 v5 : Value} (h : Qm w B q v0 v1 v2 v3 v4 v5) : q ≠ .none := by rintro rfl; exact h
theorem stp1 (a : Nat) (lo hi : Int) : stp 1 a lo hi = stp 1 0 0 0 := funext fun r => by simp [stp]
theorem stp3 (a : Nat) (lo hi : Int) : stp 3 a lo hi = stp 3 a 0 0 := funext fun r => by simp [stp]

theorem answer_any {l : List Col} (hs : Szs l) {ts : List Rw} (hlen : ts.length ≤ 4096) (hok : ∀ r ∈ rr ts, RowOk l r) (q : Qu) : ∀ (lv : Nat) (w : World) (B : Nat) (cv rv v0 v1 v2 v3 v4 v5 : Value) (b : Bnd), B ≤ w.heap.size → Cols w B cv l → Rws w B rv ts → Qm w B q v0 v1 v2 v3 v4 v5 → bnd l lv q = .ok b →
    Calls Tryz.prog 30 #[.agg #[cv, rv], .agg #[v0, v1, v2, v3, v4, v5]] w (AnsP w (ans l (rr ts) q)) := by
  have hrl : (rr ts).length ≤ 4096 := by rw [rr_len]; exact hlen
  induction q with
  | none => intro lv w B cv rv v0 v1 v2 v3 v4 v5 b _ _ _ h; exact h.elim
  | node k c lo hi wh n x y ihx ihy =>
    rintro lv w B cv rv _ _ _ _ v4 _ b hB hp hr ⟨rfl, rfl, rfl, rfl, hc, hw, a, cap, rfl, hn, hm, hk⟩ hb
    obtain ⟨hkn, ⟨x1, x2, x3⟩, ⟨y1, y2, y3⟩, hbx, hby, hrec, hlim⟩ := lim_inv hb
    have gx : 1 ≤ n → bnd l (lv + 1) x = .ok (x1, x2, x3) := fun h => by rwa [ifK, if_pos h] at hbx
    have gy : 2 ≤ n → bnd l (lv + 1) y = .ok (y1, y2, y3) := fun h => by rwa [ifK, if_pos h] at hby
    have fx : 1 ≤ n → x ≠ .none → ((ans l (rr ts) x).length : Int) = x1 ∧ Bdd 1099511627776 (ans l (rr ts) x) ∧ BOk (x1, x2, x3) := fun h hx => by
      have h1 := ans_ok hs hrl x _ _ (gx h) hx
      have h2 := bnd_bd hs x _ _ (gx h)
      exact ⟨h1.1, h1.2.mono h2.2.2.2.2.2, h2⟩
    have fy : 2 ≤ n → y ≠ .none → ((ans l (rr ts) y).length : Int) = y1 ∧ Bdd 1099511627776 (ans l (rr ts) y) ∧ BOk (y1, y2, y3) := fun h hy => by
      have h1 := ans_ok hs hrl y _ _ (gy h) hy
      have h2 := bnd_bd hs y _ _ (gy h)
      exact ⟨h1.1, h1.2.mono h2.2.2.2.2.2, h2⟩
    have hkv : ∃ a' n' cc, Value.slice a n cap = .slice a' n' cc := ⟨_, _, _, rfl⟩
    have hkc : ¬ kidN k < 0 := by omega
    rcases kidN_cases hkc with rfl | rfl | rfl | rfl | rfl | rfl | rfl | rfl | rfl | rfl
    · simp [rec] at hrec
      obtain ⟨hwe, _⟩ := ifW_ok hrec
      rw [ans_leaf _ _ _ _ _ _ _ _ _ (by simp), stp1]
      exact ans1_any c lo hi cv rv v4 _ w B l ts wh hB hp hr hw hlen hok hkv hwe
    · simp [rec] at hrec
      split at hrec
      · rename_i hf
        split at hrec
        · rename_i hwr
          obtain ⟨hwe, _⟩ := ifW_ok hrec
          obtain ⟨at', hat⟩ := Option.isSome_iff_exists.1 hf
          rw [ans_leaf _ _ _ _ _ _ _ _ _ (by simp), hat]
          exact ans2_any c lo hi cv rv v4 _ w B l ts wh hB hp hr hw hlen hok hkv hwe at' hat hwr
        · cases hrec
      · cases hrec
    · simp [rec] at hrec
      split at hrec
      · rename_i at' hat
        obtain ⟨hwe, _⟩ := ifW_ok hrec
        have hsz := szC_bd hs hat
        rw [ans_leaf _ _ _ _ _ _ _ _ _ (by simp), hat, stp3]
        exact ans3_any c lo hi cv rv v4 _ w B l ts wh hB hp hr hw hlen hok hkv hwe at' hat (szC l at').toNat (by omega) (by omega)
      · cases hrec
    · have hn2 : n = 2 := by simp [kidN] at hkn; omega
      subst hn2
      obtain ⟨b', o, rfl, hbB, ⟨u0, u1, u2, u3, u4, u5, hu, hqx⟩, hyy⟩ := hk (by decide) (by decide)
      obtain ⟨z0, z1, z2, z3, z4, z5, hz, hqy⟩ := hyy (by decide)
      obtain ⟨lx, bx, _⟩ := fx (by decide) hqx.ne
      obtain ⟨ly, by', _⟩ := fy (by decide) hqy.ne
      simp [rec] at hrec
      split at hrec
      · rename_i he
        rw [ans_4]
        exact ans4_any c lo hi cv rv v4 b' o cap w B l ts wh hB hp hr hw hbB x u0 u1 u2 u3 u4 u5 hu hqx _ (fun W hW => ihx (lv + 1) W B cv rv _ _ _ _ _ _ _ (Nat.le_trans hB hW.size) (hp.at hB hW) (hr.at hB hW) (hqx.at hB hW) (gx (by decide))) y z0 z1 z2 z3 z4 z5 hz hqy _ (fun W hW => ihy (lv + 1) W B cv rv _ _ _ _ _ _ _ (Nat.le_trans hB hW.size) (hp.at hB hW) (hr.at hB hW) (hqy.at hB hW) (gy (by decide))) bx by' (by omega)
      · cases hrec
    · have hn2 : n = 2 := by simp [kidN] at hkn; omega
      subst hn2
      obtain ⟨b', o, rfl, hbB, ⟨u0, u1, u2, u3, u4, u5, hu, hqx⟩, hyy⟩ := hk (by decide) (by decide)
      obtain ⟨z0, z1, z2, z3, z4, z5, hz, hqy⟩ := hyy (by decide)
      obtain ⟨lx, bx, _⟩ := fx (by decide) hqx.ne
      obtain ⟨ly, by', _⟩ := fy (by decide) hqy.ne
      simp [rec] at hrec
      split at hrec
      · rename_i he
        rw [ans_5]
        exact ans5_any c lo hi cv rv v4 b' o cap w B l ts wh hB hp hr hw hbB x u0 u1 u2 u3 u4 u5 hu hqx _ (fun W hW => ihx (lv + 1) W B cv rv _ _ _ _ _ _ _ (Nat.le_trans hB hW.size) (hp.at hB hW) (hr.at hB hW) (hqx.at hB hW) (gx (by decide))) y z0 z1 z2 z3 z4 z5 hz hqy _ (fun W hW => ihy (lv + 1) W B cv rv _ _ _ _ _ _ _ (Nat.le_trans hB hW.size) (hp.at hB hW) (hr.at hB hW) (hqy.at hB hW) (gy (by decide))) bx by' (by omega)
      · cases hrec
    · have hn2 : n = 1 := by simp [kidN] at hkn; omega
      subst hn2
      obtain ⟨b', o, rfl, hbB, ⟨u0, u1, u2, u3, u4, u5, hu, hqx⟩, _⟩ := hk (by decide) (by decide)
      obtain ⟨lx, bx, _⟩ := fx (by decide) hqx.ne
      simp [rec] at hrec
      split at hrec
      · rename_i hwr
        simp only [wrtB, decide_eq_true_eq] at hwr
        rw [ans_6]
        exact ans6_any c lo hi cv rv v4 b' o cap w B l ts wh hB hp hr hw hbB x u0 u1 u2 u3 u4 u5 hu hqx _ (fun W hW => ihx (lv + 1) W B cv rv _ _ _ _ _ _ _ (Nat.le_trans hB hW.size) (hp.at hB hW) (hr.at hB hW) (hqx.at hB hW) (gx (by decide))) bx ⟨hwr.1, hwr.2.2⟩
      · cases hrec
    · have hn2 : n = 2 := by simp [kidN] at hkn; omega
      subst hn2
      obtain ⟨b', o, rfl, hbB, ⟨u0, u1, u2, u3, u4, u5, hu, hqx⟩, hyy⟩ := hk (by decide) (by decide)
      obtain ⟨z0, z1, z2, z3, z4, z5, hz, hqy⟩ := hyy (by decide)
      obtain ⟨lx, bx, ox⟩ := fx (by decide) hqx.ne
      obtain ⟨ly, by', oy⟩ := fy (by decide) hqy.ne
      have h1 := ox.2.1
      have h2 := oy.2.1
      simp only at h1 h2
      rw [ans_7]
      exact ans7_any c lo hi cv rv v4 b' o cap w B l ts wh hB hp hr hw hbB x u0 u1 u2 u3 u4 u5 hu hqx _ (fun W hW => ihx (lv + 1) W B cv rv _ _ _ _ _ _ _ (Nat.le_trans hB hW.size) (hp.at hB hW) (hr.at hB hW) (hqx.at hB hW) (gx (by decide))) y z0 z1 z2 z3 z4 z5 hz hqy _ (fun W hW => ihy (lv + 1) W B cv rv _ _ _ _ _ _ _ (Nat.le_trans hB hW.size) (hp.at hB hW) (hr.at hB hW) (hqy.at hB hW) (gy (by decide))) (by omega)
    · have hn2 : n = 1 := by simp [kidN] at hkn; omega
      subst hn2
      obtain ⟨b', o, rfl, hbB, ⟨u0, u1, u2, u3, u4, u5, hu, hqx⟩, _⟩ := hk (by decide) (by decide)
      obtain ⟨lx, bx, ox⟩ := fx (by decide) hqx.ne
      have h1 := ox.2.1
      simp only at h1
      rw [ans_8]
      exact ans8_any c lo hi cv rv v4 b' o cap w B l ts wh hB hp hr hw hbB x u0 u1 u2 u3 u4 u5 hu hqx _ (fun W hW => ihx (lv + 1) W B cv rv _ _ _ _ _ _ _ (Nat.le_trans hB hW.size) (hp.at hB hW) (hr.at hB hW) (hqx.at hB hW) (gx (by decide))) bx (by omega)
    · have hn2 : n = 1 := by simp [kidN] at hkn; omega
      subst hn2
      obtain ⟨b', o, rfl, hbB, ⟨u0, u1, u2, u3, u4, u5, hu, hqx⟩, _⟩ := hk (by decide) (by decide)
      obtain ⟨lx, bx, _⟩ := fx (by decide) hqx.ne
      simp [rec] at hrec
      split at hrec
      · rename_i hlo
        obtain ⟨z, hz⟩ := get_lt (l := ans l (rr ts) x) (i := lo.toNat) (by omega)
        rw [ans_9, List.getD, hz]
        exact ans9_any c lo hi cv rv v4 b' o cap w B l ts wh hB hp hr hw hbB x u0 u1 u2 u3 u4 u5 hu hqx _ (fun W hW => ihx (lv + 1) W B cv rv _ _ _ _ _ _ _ (Nat.le_trans hB hW.size) (hp.at hB hW) (hr.at hB hW) (hqx.at hB hW) (gx (by decide))) lo.toNat z (by omega) hz
      · cases hrec
    · have hn2 : n = 1 := by simp [kidN] at hkn; omega
      subst hn2
      obtain ⟨b', o, rfl, hbB, ⟨u0, u1, u2, u3, u4, u5, hu, hqx⟩, _⟩ := hk (by decide) (by decide)
      obtain ⟨lx, bx, _⟩ := fx (by decide) hqx.ne
      simp [rec] at hrec
      split at hrec
      · rename_i hwr
        simp only [wrtB, decide_eq_true_eq] at hwr
        rw [ans_10]
        exact ans10_any c lo hi cv rv v4 b' o cap w B l ts wh hB hp hr hw hbB x u0 u1 u2 u3 u4 u5 hu hqx _ (fun W hW => ihx (lv + 1) W B cv rv _ _ _ _ _ _ _ (Nat.le_trans hB hW.size) (hp.at hB hW) (hr.at hB hW) (hqx.at hB hW) (gx (by decide))) bx hwr.2.1
      · cases hrec
end Go.Proofs.YtidfkencjdjkbaaGreatDoor.K

namespace Go.Proofs.YtidfkencjdjkbaaGreatDoor.K
open Go.RowKit Go.Proofs.YtidfkencjdjkbaaGreatDoor.K.Ds

/-- what Run says -/
def runT (l : List Col) (rs : List (List Int)) (q : Qu) : Except Int (List Int) :=
  if wroE l rs = 0 then (match bnd l 1 q with | .ok _ => .ok (ans l rs q) | .error e => .error e) else .error (wroE l rs)
def RunQ (w : World) : Except Int (List Int) → Ending → World → Prop
  | .ok xs, e, w' => AnsP w xs e w'
  | .error c, e, w' => e = .panicked (chn c) ∧ Below w.heap.size w w'

set_option maxHeartbeats 2000000 in
set_option maxRecDepth 100000 in
theorem run1_any (l : List Col) (ts : List Rw) (q : Qu) (w : World) (B T N : Nat) (cv rv v0 v1 v2 v3 v4 v5 : Value) (r : Except Int (List Int)) (hB : B ≤ w.heap.size) (hp : Cols w B cv l) (hrw : Rws w B rv ts) (hq : Qm w B q v0 v1 v2 v3 v4 v5) (hr : runT l (rr ts) q = r) (hT0 : Cl w T 0 cv) (hT1 : Cl w T 1 rv) (hN : Bx w N v0 v1 v2 v3 v4 v5) :
    Calls Tryz.prog 26 #[.pointer (some ⟨T, 0, none⟩), .pointer (some ⟨N, 0, none⟩)] w (RunQ w r) := by
  have HP : Hid (Cols w B cv l) := hp
  have HRW : Hid (Rws w B rv ts) := hrw
  have HQ : Hid (Qm w B q v0 v1 v2 v3 v4 v5) := hq
  have HR : Hid (runT l (rr ts) q = r) := hr
  obtain ⟨la, lc, rfl, _⟩ := hp.slice
  obtain ⟨ra, rc, rfl, _⟩ := hrw.slice
  obtain ⟨kk, kc, kl, kh, ka, kn', kd, kb, km, kp, rfl, rfl, rfl, rfl, rfl, rfl⟩ := hq.shape
  have HT : Hid (Cl w T 0 (.slice la l.length lc) ∧ Cl w T 1 (.slice ra ts.length rc)) := ⟨hT0, hT1⟩
  have HN : Hid (Bx w N (.int .i64 kk) (.string kc) (.int .i64 kl) (.int .i64 kh) (.slice ka kn' kd) (.slice kb km kp)) := hN
  obtain ⟨ew, hew⟩ : ∃ ew, wroE l (rr ts) = ew := ⟨_, rfl⟩
  have k1 := wrong_any B _ _ l ts w hB hp hrw ew hew
  have HEW : Hid (wroE l (rr ts) = ew) := hew
  have m0 := hT0.c
  have m1 := hT1.c
  clear hp hrw hq hr hT0 hT1 hN hew
  go_enter Tryz.func26, Tryz.ntmps26
  go_wp2_with fail
  refine k1.mono ?_
  rintro e w1 ⟨rfl, hb1⟩
  clear k1 m0 m1
  have hs1 := hb1.size
  by_cases he : ew = 0
  · subst he
    obtain ⟨hce, hle, hok⟩ := wroE_ok HEW.out
    have hsz : Szs l := (colE_ok hce).2.2.1
    obtain ⟨rb, hrb⟩ : ∃ rb, bnd l 1 q = rb := ⟨_, rfl⟩
    have k2 := bound_any l hsz q 1 w1 B (.slice la l.length lc) _ _ _ _ _ _ rb (by decide) (by omega) (HP.out.at hB hb1) (HQ.out.at hB hb1) hrb
    have HRB : Hid (bnd l 1 q = rb) := hrb
    have HHH : Hid (Szs l ∧ ts.length ≤ 4096 ∧ ∀ r ∈ rr ts, RowOk l r) := ⟨hsz, by rw [← rr_len]; exact hle, hok⟩
    clear hrb hsz hce hle hok
    have hT1 := HT.out.1.at hb1
    have hN1 := HN.out.at hb1
    have m0 := hN1.a0.c
    have m1 := hN1.a1.c
    have m2 := hN1.a2.c
    have m3 := hN1.a3.c
    have m4 := hN1.a4.c
    have m5 := hN1.a5.c
    have m6 := hT1.c
    clear hT1 hN1
    go_wp2_with fail
    refine (check_ok w1).mono ?_
    rintro e w2 ⟨rfl, hw2⟩
    subst hw2
    go_wp2_with fail
    refine k2.mono ?_
    rintro e w3 ⟨he, hb3⟩
    clear k2 m0 m1 m2 m3 m4 m5 m6
    have hbw := bt hb1 hb3
    have hs3 := hbw.size
    cases rb with
    | error er =>
      obtain rfl : Except.error er = r := by rw [← HR.out, runT, if_pos HEW.out, HRB.out]
      obtain rfl : e = .panicked (chn er) := he
      go_wp2
      exact ⟨rfl, rfl, hbw⟩
    | ok bb =>
      obtain ⟨xs, hxs⟩ : ∃ xs, ans l (rr ts) q = xs := ⟨_, rfl⟩
      obtain rfl : Except.ok xs = r := by rw [← HR.out, runT, if_pos HEW.out, HRB.out, hxs]
      obtain ⟨b1, b2, b3⟩ := bb
      obtain rfl : e = .returned (.agg #[.int .i64 b1, .int .i64 b2, .int .i64 b3]) := he
      have k3 := answer_any HHH.out.1 HHH.out.2.1 HHH.out.2.2 q 1 w3 B _ _ _ _ _ _ _ _ _ (by omega) (HP.out.at hB hbw) (HRW.out.at hB hbw) (HQ.out.at hB hbw) HRB.out
      have hT1 := HT.out.1.at hbw
      have hT2 := HT.out.2.at hbw
      have hN1 := HN.out.at hbw
      have m0 := hN1.a0.c
      have m1 := hN1.a1.c
      have m2 := hN1.a2.c
      have m3 := hN1.a3.c
      have m4 := hN1.a4.c
      have m5 := hN1.a5.c
      have m6 := hT1.c
      have m7 := hT2.c
      clear hT1 hT2 hN1
      rw [hxs] at k3
      clear hxs HR
      go_wp2_with fail
      refine k3.mono ?_
      rintro e w4 ⟨g, c4, rfl, hA, hb4⟩
      clear k3
      go_wp2
      go_ret
      exact AnsP.up ⟨g, c4, rfl, hA, hb4⟩ hbw
  · obtain rfl : Except.error ew = r := by rw [← HR.out, runT, HEW.out, if_neg he]
    go_wp2_with fail
    refine (check_no ew he w1).mono ?_
    rintro e w2 ⟨rfl, rfl⟩
    go_wp2
    exact ⟨rfl, rfl, hb1⟩

/-- what Run answers -/
def runV : Except Int (List Int) → List Int × Int
  | .error e => ([], e)
  | .ok xs => (xs, 0)
def RunP (w : World) (xs : List Int) (er : Int) (e : Ending) (w' : World) : Prop :=
  ∃ a c, e = .returned (.tuple #[.slice a xs.length c, .int .i64 er]) ∧ Ints w' w'.heap.size w'.heap.size (.slice a xs.length c) xs ∧ Below w.heap.size w w'
set_option maxHeartbeats 1000000 in
set_option maxRecDepth 100000 in
theorem askRun_any (l : List Col) (ts : List Rw) (q : Qu) (w : World) (B : Nat) (cv rv v0 v1 v2 v3 v4 v5 : Value) (xs : List Int) (er : Int) (hB : B ≤ w.heap.size) (hp : Cols w B cv l) (hrw : Rws w B rv ts) (hq : Qm w B q v0 v1 v2 v3 v4 v5) (hr : runV (runT l (rr ts) q) = (xs, er)) :
    Calls Tryz.prog 9 #[.agg #[cv, rv], .agg #[v0, v1, v2, v3, v4, v5]] w (RunP w xs er) := by
  have hb0 : Below w.heap.size w ((w.alloc (.cells #[cv, rv] 33)).alloc (.cells #[v0, v1, v2, v3, v4, v5] 25)) := bal (ba _ _) _
  have hT0 : Cl ((w.alloc (.cells #[cv, rv] 33)).alloc (.cells #[v0, v1, v2, v3, v4, v5] 25)) w.heap.size 0 cv := (Cl.new _ 33 _ _ rfl rfl).at (ba _ _)
  have hT1 : Cl ((w.alloc (.cells #[cv, rv] 33)).alloc (.cells #[v0, v1, v2, v3, v4, v5] 25)) w.heap.size 1 rv := (Cl.new _ 33 _ _ rfl rfl).at (ba _ _)
  have hN : Bx ((w.alloc (.cells #[cv, rv] 33)).alloc (.cells #[v0, v1, v2, v3, v4, v5] 25)) (w.heap.size + 1) v0 v1 v2 v3 v4 v5 := Bx.new _ _ (by simp) _ _ _ _ _ _
  have kc : Calls Tryz.prog 25 #[.func (.func 26) #[] #[.pointer (some ⟨w.heap.size, 0, none⟩), .pointer (some ⟨w.heap.size + 1, 0, none⟩)]] ((w.alloc (.cells #[cv, rv] 33)).alloc (.cells #[v0, v1, v2, v3, v4, v5] 25)) (RunP ((w.alloc (.cells #[cv, rv] 33)).alloc (.cells #[v0, v1, v2, v3, v4, v5] 25)) xs er) := by
    generalize hW : ((w.alloc (.cells #[cv, rv] 33)).alloc (.cells #[v0, v1, v2, v3, v4, v5] 25)) = W at *
    have inner : ∀ r, runT l (rr ts) q = r → ∀ W', Below W.heap.size W W' → W.heap.size + 1 ≤ W'.heap.size → Calls Tryz.prog 26 #[.pointer (some ⟨w.heap.size, 0, none⟩), .pointer (some ⟨w.heap.size + 1, 0, none⟩)] W' (RunQ W' r) := by
      intro r hr W' hW' hs
      have hsz := hb0.size
      exact run1_any l ts q W' B _ _ cv rv v0 v1 v2 v3 v4 v5 r (by omega) ((hp.at hB hb0).at (by omega) hW') ((hrw.at hB hb0).at (by omega) hW') ((hq.at hB hb0).at (by omega) hW') hr (hT0.at hW') (hT1.at hW') (hN.at hW')
    cases ht : runT l (rr ts) q with
    | error e1 =>
      rw [ht] at hr
      simp only [runV, Prod.mk.injEq] at hr
      obtain ⟨rfl, rfl⟩ := hr
      refine (caughtL_no _ e1 W (inner _ ht)).mono ?_
      rintro e w' ⟨rfl, hb⟩
      exact ⟨none, 0, rfl, ⟨none, 0, rfl, Nat.le_refl _, by simp, fun h => absurd rfl h⟩, hb⟩
    | ok ys =>
      rw [ht] at hr
      simp only [runV, Prod.mk.injEq] at hr
      obtain ⟨rfl, rfl⟩ := hr
      refine (caughtL_ok _ (fun V w' => ∃ g c, V = .slice (some ⟨g, 0, none⟩) ys.length c ∧ Arw w' (W.heap.size + 1) g c ys) W fun W' h1 h2 => (inner _ ht W' h1 h2).mono fun e w' h => ?_).mono ?_
      · obtain ⟨g, c, rfl, hA, hb⟩ := h
        exact ⟨_, rfl, ⟨g, c, rfl, hA.mono h2⟩, hb⟩
      · rintro e w' ⟨V, w1, rfl, ⟨g, c, rfl, hA⟩, hb, rfl⟩
        have hg := hA.lt
        have hA2 := hA.oth (b := W.heap.size) (k := 0) (by omega) (.int .i64 0)
        refine ⟨some ⟨g, 0, none⟩, c, rfl, hA2.ints _ (Nat.ne_of_lt hA2.lt.2), bs hb (Nat.le_refl _) _⟩
  obtain ⟨la, lc, rfl, _⟩ := hp.slice
  obtain ⟨ra, rc, rfl, _⟩ := hrw.slice
  obtain ⟨kk, kc', kl, kh, ka, kn', kd, kb, km, kp, rfl, rfl, rfl, rfl, rfl, rfl⟩ := hq.shape
  have hmf := hmf
  clear hp hq hrw hr hT0 hT1 hN
  go_enter Tryz.func9, Tryz.ntmps9
  go_wp2_with fail
  refine kc.mono ?_
  rintro e w1 ⟨a, c, rfl, hI, hb1⟩
  clear kc
  have hbw : Below w.heap.size w w1 := bt hb0 hb1
  go_wp2
  exact bodyPost_ret (v := .tuple #[.slice a xs.length c, .int .i64 er]) (by simp [results, Tryz.results9, go_sem]) rfl ⟨a, c, rfl, hI, hbw⟩
end Go.Proofs.YtidfkencjdjkbaaGreatDoor.K

namespace Go.Proofs.YtidfkencjdjkbaaGreatDoor.K
open Go.RowKit Go.Proofs.YtidfkencjdjkbaaGreatDoor.K.Ds

end Go.Proofs.YtidfkencjdjkbaaGreatDoor.K

namespace Go.Proofs.YtidfkencjdjkbaaGreatDoor.K
open Go.ChangeShapes Go.WideShapes Go.ChangeAt Go.RowKit Go.Proofs.YtidfkencjdjkbaaGreatDoor.K.Ds Go.Deep

theorem cell_lt {w : World} {a : Addr} {v : Value} (h : w.cell? a = some v) : a.block < w.heap.size := by
  unfold World.cell? at h
  split at h
  · rename_i hb; exact (Array.getElem?_eq_some_iff.1 hb).1
  · cases h
theorem cells3 : Tryz.prog.cellsOf 3 = 1 := by kernel_rfl
theorem cells9 : Tryz.prog.cellsOf 9 = 1 := by kernel_rfl
theorem cells26 : Tryz.prog.cellsOf 39 = 1 := by kernel_rfl
theorem cells47 : Tryz.prog.cellsOf 109 = 2 := by kernel_rfl
theorem cells25 : Tryz.prog.cellsOf 33 = 2 := by kernel_rfl
theorem maxLen_eq : maxLen = 9223372036854775807 := by decide

/-- a list of numbers that came in -/
theorem ints_of_trod {H : Type} {enc : TypeId × Value → H} {W : World} {n : Nat} {V : Value} {D : DataW H} {P : List MemPlace} (h : DataW.trod enc Tryz.prog W 0 (fun _ => true) true n 39 [V] = some (D, P)) :
    ∃ xs, Ints W W.heap.size W.heap.size V xs := by
  rcases open_ints Tryz.underlying39 Tryz.underlying3 cells3 h with ⟨hcs, _⟩ | ⟨a, len, cap, zs, hcs, _, hl, hmx, hz, hx, hcell, hwz⟩
  · simp at hcs
    subst hcs
    exact ⟨[], none, 0, rfl, Nat.le_refl _, by simp, fun h => absurd rfl h⟩
  · simp at hcs
    subst hcs
    simp only [if_true] at hz
    have hlen : (zs.take len).length = len := by simp; omega
    rw [maxLen_eq] at hmx
    refine ⟨zs.take len, some a, cap, by rw [hlen], by omega, by omega, fun hne => ?_⟩
    have hpos : 0 < len := by
      rcases Nat.eq_zero_or_pos len with h0 | h0
      · subst h0; simp at hne
      · exact h0
    obtain ⟨b, o, spot⟩ := a
    have h0 := hcell 0 (by omega)
    have hs : spot = none := by simpa [Addr.add] using World.cell?_spot h0
    subst hs
    have hlt : b < W.heap.size := cell_lt (a := (⟨b, o, none⟩ : Addr).add 0) h0
    refine ⟨b, o, rfl, hlt, by omega, fun i x hi => ?_⟩
    have hi2 : i < len := by rw [← hlen]; exact (List.getElem?_eq_some_iff.1 hi).1
    have h1 := hcell i (by omega)
    rw [Addr.add_lit] at h1
    rw [h1]
    rw [List.getElem?_take_of_lt hi2] at hi
    simp [List.getD, hi]

/-- rows that came in -/
theorem rows_of_trod {H : Type} {enc : TypeId × Value → H} {W : World} {n : Nat} {V : Value} {D : DataW H} {P : List MemPlace} (h : DataW.trod enc Tryz.prog W 0 (fun _ => true) true n 31 [V] = some (D, P)) :
    ∃ ts : List Rw, Rws W W.heap.size V ts := by
  rcases open_slice1 Tryz.underlying31 cells26 h with ⟨hcs, _⟩ | ⟨a, len, cap, m, n', V0, D0, P0, hcs, _, hl, hmx, hm, hx, hall⟩
  · simp at hcs
    subst hcs
    exact ⟨[], rws_nil _ _⟩
  · simp at hcs
    subst hcs
    simp only [if_true] at hm
    subst hm
    rw [maxLen_eq] at hmx
    have each : ∀ i, i < len → ∃ q : List Int, Ints W W.heap.size W.heap.size (V0 i) q := fun i hi => ints_of_trod (hall i (by omega)).2
    obtain ⟨q, hq⟩ := choose_lt each
    have hget : ∀ i t, ((List.range len).map fun i => ((V0 i, q i) : Rw))[i]? = some t → i < len ∧ t = (V0 i, q i) := by
      intro i t hi
      have hlt := (List.getElem?_eq_some_iff.1 hi).1
      simp at hlt
      simp [hlt] at hi
      exact ⟨hlt, hi.symm⟩
    refine ⟨(List.range len).map fun i => (V0 i, q i), some a, m, by simp, by simp; omega, by simp; omega, fun t ht => ?_, fun hne => ?_⟩
    · obtain ⟨i, hi, rfl⟩ := List.mem_map.1 ht
      exact hq i (List.mem_range.1 hi)
    · have hpos : 0 < len := by
        rcases Nat.eq_zero_or_pos len with h0 | h0
        · subst h0; simp at hne
        · exact h0
      obtain ⟨b, o, spot⟩ := a
      have h0 := (hall 0 (by omega)).1
      have hs : spot = none := by simpa [Addr.add] using World.cell?_spot h0
      subst hs
      have hlt : b < W.heap.size := cell_lt (a := (⟨b, o, none⟩ : Addr).add 0) h0
      refine ⟨b, o, rfl, hlt, fun i t hi => ?_⟩
      obtain ⟨hi2, rfl⟩ := hget i t hi
      obtain ⟨h1, _⟩ := hall i (by omega)
      rw [Addr.add_lit] at h1
      exact h1

theorem field47 : ∃ f0 f1 : Field, Tryz.prog.underlying 109 = some (.struct #[f0, f1]) ∧ f0.offset = 0 ∧ f1.offset = 1 ∧ f0.type = 9 ∧ f1.type = 3 := by
  refine ⟨_, _, Tryz.underlying109, ?_, ?_, ?_, ?_⟩ <;> rfl

/-- columns that came in -/
theorem cols_of_trod {H : Type} {enc : TypeId × Value → H} {W : World} {n : Nat} {V : Value} {D : DataW H} {P : List MemPlace} (h : DataW.trod enc Tryz.prog W 0 (fun _ => true) true n 30 [V] = some (D, P)) :
    ∃ l : List Col, Cols W W.heap.size V l := by
  obtain ⟨f0, f1, hu, o0, o1, t0, t1⟩ := field47
  rcases open_slice_pairs Tryz.underlying30 hu cells47 o0 o1 (by rw [t0]; exact cells9) (by rw [t1]; exact cells3) h with ⟨hcs, _⟩ | ⟨a, len, cap, m, n', V0, V1, D0, D1, P0, P1, hcs, _, hl, hmx, hm, hx, hall⟩
  · simp at hcs
    subst hcs
    exact ⟨[], cols_nil _ _⟩
  · simp at hcs
    subst hcs
    simp only [if_true] at hm
    subst hm
    rw [maxLen_eq] at hmx
    have each : ∀ i, i < len → ∃ q : Col, (V0 i = .string q.1 ∧ V1 i = .int .i64 q.2) ∧ q.1.size ≤ 9223372036854775807 := by
      intro i hi
      obtain ⟨_, _, h3, h4⟩ := hall i (by omega)
      rw [t0] at h3
      rw [t1] at h4
      obtain ⟨s, e0, _, hw⟩ := DataW.trod_string Tryz.underlying9 h3
      obtain ⟨k, e1, _, _⟩ := DataW.trod_int Tryz.underlying3 h4
      simp at e0 e1
      exact ⟨(s, k), ⟨e0, e1⟩, by rw [← maxLen_eq]; exact hw⟩
    obtain ⟨q, hq⟩ := choose_lt each
    have hget : ∀ i t, ((List.range len).map fun i => q i)[i]? = some t → i < len ∧ t = q i := by
      intro i t hi
      have hlt := (List.getElem?_eq_some_iff.1 hi).1
      simp at hlt
      simp [hlt] at hi
      exact ⟨hlt, hi.symm⟩
    refine ⟨(List.range len).map fun i => q i, some a, m, by simp, by simp; omega, by simp; omega, fun t ht => ?_, fun hne => ?_⟩
    · obtain ⟨i, hi, rfl⟩ := List.mem_map.1 ht
      exact (hq i (List.mem_range.1 hi)).2
    · have hpos : 0 < len := by
        rcases Nat.eq_zero_or_pos len with h0 | h0
        · subst h0; simp at hne
        · exact h0
      obtain ⟨b, o, spot⟩ := a
      have h0 := (hall 0 (by omega)).1
      have hs : spot = none := by simpa [Addr.add] using World.cell?_spot h0
      subst hs
      have hlt : b < W.heap.size := cell_lt (a := (⟨b, o, none⟩ : Addr).add (0 * 2)) h0
      refine ⟨b, o, rfl, hlt, fun i t hi => ?_⟩
      obtain ⟨hi2, rfl⟩ := hget i t hi
      obtain ⟨h1, h2, _⟩ := hall i (by omega)
      rw [Addr.add_lit] at h1 h2
      exact ⟨by rw [h1, (hq i hi2).1.1], by rw [Nat.add_assoc, h2, (hq i hi2).1.2]⟩
end Go.Proofs.YtidfkencjdjkbaaGreatDoor.K
