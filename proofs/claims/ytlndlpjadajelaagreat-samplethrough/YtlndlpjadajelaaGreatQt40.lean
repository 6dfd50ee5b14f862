import Derived.Test.YtlndlpjadajelaaGreatQt39
import Derived.Test.YtlndlpjadajelaaGreatQt32
namespace Go.Proofs.YtlndlpjadajelaaGreat.K
open Go.RowKit Go.Proofs.YtlndlpjadajelaaGreat.K.Ds

set_option maxHeartbeats 2000000 in
set_option maxRecDepth 100000 in
theorem ans9_any (c : ByteArray) (lo hi : Int) (cv rv wv : Value) (b o cap : Nat) (w : World) (B : Nat) (l : List Col) (ts : List Rw) (wh : List Tst) (hB : B ≤ w.heap.size) (hp : Cols w B cv l) (hr : Rws w B rv ts) (hw : Tss w B wv wh) (hbB : b < B) (x : Qu) (u0 u1 u2 u3 u4 u5 : Value) (hu : At6 w b o u0 u1 u2 u3 u4 u5) (hqx : Qm w B x u0 u1 u2 u3 u4 u5) (xs : List Int) (kx : ∀ W, Below w.heap.size w W → Calls Tryz.prog 73 #[.agg #[cv, rv], .agg #[u0, u1, u2, u3, u4, u5]] W (AnsP W xs)) (j : Nat) (z : Int) (hlj : lo = (j : Int)) (hj : xs[j]? = some z) :
    Calls Tryz.prog 73 #[.agg #[cv, rv], .agg #[.int .i64 9, .string c, .int .i64 lo, .int .i64 hi, wv, .slice (some ⟨b, o, none⟩) 1 cap]] w (AnsP w ([z])) := by
  subst hlj
  have ab := Ab.new w cv rv 9 c (j : Int) hi wv (.slice (some ⟨b, o, none⟩) 1 cap)
  have hb0 := b3a w (.cells #[cv, rv] 27) (.cells #[.int .i64 9, .string c, .int .i64 (j : Int), .int .i64 hi, wv, .slice (some ⟨b, o, none⟩) 1 cap] 31) (.cells #[.func (.func 126) #[] #[.pointer (some ⟨w.heap.size + 1, 0, none⟩)]] 162)
  obtain ⟨W0, hW0⟩ : ∃ W0, (((w.alloc (.cells #[cv, rv] 27)).alloc (.cells #[.int .i64 9, .string c, .int .i64 (j : Int), .int .i64 hi, wv, .slice (some ⟨b, o, none⟩) 1 cap] 31)).alloc (.cells #[.func (.func 126) #[] #[.pointer (some ⟨w.heap.size + 1, 0, none⟩)]] 162)) = W0 := ⟨_, rfl⟩
  rw [hW0] at ab hb0
  have HW0 : Hid ((((w.alloc (.cells #[cv, rv] 27)).alloc (.cells #[.int .i64 9, .string c, .int .i64 (j : Int), .int .i64 hi, wv, .slice (some ⟨b, o, none⟩) 1 cap] 31)).alloc (.cells #[.func (.func 126) #[] #[.pointer (some ⟨w.heap.size + 1, 0, none⟩)]] 162)) = W0) := hW0
  have k1 := kid0_any w.heap.size (w.heap.size + 1) cv rv b o 1 cap (by omega) xs W0 ab.t0.c ab.t1.c ab.a5.c B x u0 u1 u2 u3 u4 u5 (hu.keep hb0 (Nat.lt_of_lt_of_le hbB hB)) (hqx.at hB hb0) l ts (hp.at hB hb0) (hr.at hB hb0) (kx _ hb0.drew)
  have HAB : Hid (Ab W0 w.heap.size cv rv 9 c (j : Int) hi wv (.slice (some ⟨b, o, none⟩) 1 cap)) := ab
  obtain ⟨ca, ccp, rfl, _⟩ := hp.slice
  obtain ⟨ra, rc, rfl, _⟩ := hr.slice
  obtain ⟨wa, wc, rfl, _⟩ := hw.slice
  have hmf := hmf
  have m0 := HAB.out.a0.c
  have k1' := kid0_any w.heap.size (w.heap.size + 1) _ _ b o 1 cap (by omega) xs W0.drew HAB.out.t0.c HAB.out.t1.c HAB.out.a5.c B x u0 u1 u2 u3 u4 u5 (hu.keep hb0.drew (Nat.lt_of_lt_of_le hbB hB)) (hqx.at hB hb0.drew) l ts (hp.at hB hb0.drew) (hr.at hB hb0.drew) (kx _ hb0.drew.drew)
  clear hp hr hw hu hqx kx ab k1
  go_enter Tryz.func73, Tryz.ntmps73
  have a2 := HAB.out.a2.c
  have l2 := HAB.out.a2.lt
  have hjl : j < xs.length := (List.getElem?_eq_some_iff.1 hj).1
  have hjl1 : (0 : Int) ≤ (j : Int) := by omega
  have hjl2 : (j : Int) < (xs.length : Int) := by omega
  have k1d : Calls Tryz.prog 127 #[.int .i64 0, .pointer (some ⟨w.heap.size, 0, none⟩), .pointer (some ⟨w.heap.size + 1, 0, none⟩)] W0.drew (AnsP W0.drew xs) := k1'
  go_wp2
  go_region_law (first | (go_simp; go_at_call 127; refine k1d.mono ?_; rintro x3 w1 hA; obtain ⟨g1, c1, rfl, hA1, hb1⟩ := hA; have q0 : w1.cell? ⟨g1, j, none⟩ = some (.int .i64 z) := hA1.cell hj; have q1 : w1.cell? ⟨w.heap.size + 1, 2, none⟩ = some (.int .i64 (j : Int)) := (hb1.cell (p := ⟨w.heap.size + 1, 2, none⟩) l2).trans a2; go_wp2_with fail))
  all_goals
    go_wp2
    go_ret
    exact ⟨w1.heap.size, 1, rfl, Arw.lit _ _ _ (Nat.le_trans hb0.drew.size hb1.size), bt hb0.drew (bal hb1 _)⟩
set_option maxHeartbeats 2000000 in
set_option maxRecDepth 100000 in
theorem ans10_any (c : ByteArray) (lo hi : Int) (cv rv wv : Value) (b o cap : Nat) (w : World) (B : Nat) (l : List Col) (ts : List Rw) (wh : List Tst) (hB : B ≤ w.heap.size) (hp : Cols w B cv l) (hr : Rws w B rv ts) (hw : Tss w B wv wh) (hbB : b < B) (x : Qu) (u0 u1 u2 u3 u4 u5 : Value) (hu : At6 w b o u0 u1 u2 u3 u4 u5) (hqx : Qm w B x u0 u1 u2 u3 u4 u5) (xs : List Int) (kx : ∀ W, Below w.heap.size w W → Calls Tryz.prog 73 #[.agg #[cv, rv], .agg #[u0, u1, u2, u3, u4, u5]] W (AnsP W xs)) (hbx : Bdd 1099511627776 xs) (hle : lo ≤ hi) :
    Calls Tryz.prog 73 #[.agg #[cv, rv], .agg #[.int .i64 10, .string c, .int .i64 lo, .int .i64 hi, wv, .slice (some ⟨b, o, none⟩) 1 cap]] w (AnsP w (xs.map (inT lo hi))) := by
  have ab := Ab.new w cv rv 10 c lo hi wv (.slice (some ⟨b, o, none⟩) 1 cap)
  have hb0 := b3a w (.cells #[cv, rv] 27) (.cells #[.int .i64 10, .string c, .int .i64 lo, .int .i64 hi, wv, .slice (some ⟨b, o, none⟩) 1 cap] 31) (.cells #[.func (.func 126) #[] #[.pointer (some ⟨w.heap.size + 1, 0, none⟩)]] 162)
  obtain ⟨W0, hW0⟩ : ∃ W0, (((w.alloc (.cells #[cv, rv] 27)).alloc (.cells #[.int .i64 10, .string c, .int .i64 lo, .int .i64 hi, wv, .slice (some ⟨b, o, none⟩) 1 cap] 31)).alloc (.cells #[.func (.func 126) #[] #[.pointer (some ⟨w.heap.size + 1, 0, none⟩)]] 162)) = W0 := ⟨_, rfl⟩
  rw [hW0] at ab hb0
  have HW0 : Hid ((((w.alloc (.cells #[cv, rv] 27)).alloc (.cells #[.int .i64 10, .string c, .int .i64 lo, .int .i64 hi, wv, .slice (some ⟨b, o, none⟩) 1 cap] 31)).alloc (.cells #[.func (.func 126) #[] #[.pointer (some ⟨w.heap.size + 1, 0, none⟩)]] 162)) = W0) := hW0
  have k1 := kid0_any w.heap.size (w.heap.size + 1) cv rv b o 1 cap (by omega) xs W0 ab.t0.c ab.t1.c ab.a5.c B x u0 u1 u2 u3 u4 u5 (hu.keep hb0 (Nat.lt_of_lt_of_le hbB hB)) (hqx.at hB hb0) l ts (hp.at hB hb0) (hr.at hB hb0) (kx _ hb0.drew)
  have HAB : Hid (Ab W0 w.heap.size cv rv 10 c lo hi wv (.slice (some ⟨b, o, none⟩) 1 cap)) := ab
  obtain ⟨ca, ccp, rfl, _⟩ := hp.slice
  obtain ⟨ra, rc, rfl, _⟩ := hr.slice
  obtain ⟨wa, wc, rfl, _⟩ := hw.slice
  have hmf := hmf
  have m0 := HAB.out.a0.c
  have k1' := kid0_any w.heap.size (w.heap.size + 1) _ _ b o 1 cap (by omega) xs W0.drew HAB.out.t0.c HAB.out.t1.c HAB.out.a5.c B x u0 u1 u2 u3 u4 u5 (hu.keep hb0.drew (Nat.lt_of_lt_of_le hbB hB)) (hqx.at hB hb0.drew) l ts (hp.at hB hb0.drew) (hr.at hB hb0.drew) (kx _ hb0.drew.drew)
  clear hp hr hw hu hqx kx ab k1
  go_enter Tryz.func73, Tryz.ntmps73
  have f0 := HAB.out.f0.c
  have lf := HAB.out.f0.lt
  go_wp2
  go_region_law (first | (go_simp; go_at_call 127; refine k1'.mono ?_; rintro x3 w1 hA; obtain ⟨g1, c1, rfl, hA1, hb1⟩ := hA; have q0 : w1.cell? ⟨w.heap.size + 1 + 1, 0, none⟩ = some (.func (.func 126) #[] #[.pointer (some ⟨w.heap.size + 1, 0, none⟩)]) := (hb1.cell (p := ⟨w.heap.size + 1 + 1, 0, none⟩) lf).trans f0; go_wp2_with fail) | (go_simp; go_at_call 136; refine (eachC_any W0.drew.heap.size g1 c1 (w.heap.size + 1) xs w1 hA1 lo hi hbx ((HAB.out.at (Below.refl _ _).drew).at hb1).a2.c ((HAB.out.at (Below.refl _ _).drew).at hb1).a3.c hle (by have := HAB.out.a2.lt; have := hA1.lt.1; intro e; subst e; exact Nat.lt_irrefl _ (Nat.lt_of_lt_of_le HAB.out.a2.lt hA1.lt.1))).mono ?_; rintro x4 w2 hE; obtain ⟨rfl, hA2, hgr⟩ := hE; go_wp2_with fail))
  all_goals
    go_wp2
    go_ret
    have hfin := grown_ans hb0.drew hb1 hA1.lt.1 hgr hA2
    rw [List.length_map] at hfin
    exact hfin
end Go.Proofs.YtlndlpjadajelaaGreat.K

namespace Go.Proofs.YtlndlpjadajelaaGreat.K
open Go.RowKit Go.Proofs.YtlndlpjadajelaaGreat.K.Ds

theorem Qm.ne {w : World} {B : Nat} {q : Qu} {v0 v1 v2 v3 v4 v5 : Value} (h : Qm w B q v0 v1 v2 v3 v4 v5) : q ≠ .none := by rintro rfl; exact h
theorem stp1 (a : Nat) (lo hi : Int) : stp 1 a lo hi = stp 1 0 0 0 := funext fun r => by simp [stp]
theorem stp3 (a : Nat) (lo hi : Int) : stp 3 a lo hi = stp 3 a 0 0 := funext fun r => by simp [stp]

theorem answer_any {l : List Col} (hs : Szs l) {ts : List Rw} (hlen : ts.length ≤ 4096) (hok : ∀ r ∈ rr ts, RowOk l r) (q : Qu) : ∀ (lv : Nat) (w : World) (B : Nat) (cv rv v0 v1 v2 v3 v4 v5 : Value) (b : Bnd), B ≤ w.heap.size → Cols w B cv l → Rws w B rv ts → Qm w B q v0 v1 v2 v3 v4 v5 → bnd l lv q = .ok b →
    Calls Tryz.prog 73 #[.agg #[cv, rv], .agg #[v0, v1, v2, v3, v4, v5]] w (AnsP w (ans l (rr ts) q)) := by
  have hrl : (rr ts).length ≤ 4096 := by rw [rr_len]; exact hlen
  induction q with
  | none => intro lv w B cv rv v0 v1 v2 v3 v4 v5 b _ _ _ h; exact h.elim
  | node k c lo hi wh n x y ihx ihy =>
    rintro lv w B cv rv _ _ _ _ v4 _ b hB hp hr ⟨rfl, rfl, rfl, rfl, hc, hw, a, cap, rfl, hn, hm, hk⟩ hb
    obtain ⟨hkn, ⟨x1, x2, x3⟩, ⟨y1, y2, y3⟩, hbx, hby, hrec, hlim⟩ := lim_inv hb
    have gx : 1 ≤ n → bnd l (lv + 1) x = .ok (x1, x2, x3) := fun h => by rwa [ifK, if_pos h] at hbx
    have gy : 2 ≤ n → bnd l (lv + 1) y = .ok (y1, y2, y3) := fun h => by rwa [ifK, if_pos h] at hby
    have fx : 1 ≤ n → x ≠ .none → ((ans l (rr ts) x).length : Int) = x1 ∧ Bdd 1099511627776 (ans l (rr ts) x) ∧ BOk (x1, x2, x3) := fun h hx => by
      have h1 := ans_ok hs hrl x _ _ (gx h) hx
      have h2 := bnd_bd hs x _ _ (gx h)
      exact ⟨h1.1, h1.2.mono h2.2.2.2.2.2, h2⟩
    have fy : 2 ≤ n → y ≠ .none → ((ans l (rr ts) y).length : Int) = y1 ∧ Bdd 1099511627776 (ans l (rr ts) y) ∧ BOk (y1, y2, y3) := fun h hy => by
      have h1 := ans_ok hs hrl y _ _ (gy h) hy
      have h2 := bnd_bd hs y _ _ (gy h)
      exact ⟨h1.1, h1.2.mono h2.2.2.2.2.2, h2⟩
    have hkv : ∃ a' n' cc, Value.slice a n cap = .slice a' n' cc := ⟨_, _, _, rfl⟩
    have hkc : ¬ kidN k < 0 := by omega
    rcases kidN_cases hkc with rfl | rfl | rfl | rfl | rfl | rfl | rfl | rfl | rfl | rfl
    · simp [rec] at hrec
      obtain ⟨hwe, _⟩ := ifW_ok hrec
      rw [ans_leaf _ _ _ _ _ _ _ _ _ (by simp), stp1]
      exact ans1_any c lo hi cv rv v4 _ w B l ts wh hB hp hr hw hlen hok hkv hwe
    · simp [rec] at hrec
      split at hrec
      · rename_i hf
        split at hrec
        · rename_i hwr
          obtain ⟨hwe, _⟩ := ifW_ok hrec
          obtain ⟨at', hat⟩ := Option.isSome_iff_exists.1 hf
          rw [ans_leaf _ _ _ _ _ _ _ _ _ (by simp), hat]
          exact ans2_any c lo hi cv rv v4 _ w B l ts wh hB hp hr hw hlen hok hkv hwe at' hat hwr
        · cases hrec
      · cases hrec
    · simp [rec] at hrec
      split at hrec
      · rename_i at' hat
        obtain ⟨hwe, _⟩ := ifW_ok hrec
        have hsz := szC_bd hs hat
        rw [ans_leaf _ _ _ _ _ _ _ _ _ (by simp), hat, stp3]
        exact ans3_any c lo hi cv rv v4 _ w B l ts wh hB hp hr hw hlen hok hkv hwe at' hat (szC l at').toNat (by omega) (by omega)
      · cases hrec
    · have hn2 : n = 2 := by simp [kidN] at hkn; omega
      subst hn2
      obtain ⟨b', o, rfl, hbB, ⟨u0, u1, u2, u3, u4, u5, hu, hqx⟩, hyy⟩ := hk (by decide) (by decide)
      obtain ⟨z0, z1, z2, z3, z4, z5, hz, hqy⟩ := hyy (by decide)
      obtain ⟨lx, bx, _⟩ := fx (by decide) hqx.ne
      obtain ⟨ly, by', _⟩ := fy (by decide) hqy.ne
      simp [rec] at hrec
      split at hrec
      · rename_i he
        rw [ans_4]
        exact ans4_any c lo hi cv rv v4 b' o cap w B l ts wh hB hp hr hw hbB x u0 u1 u2 u3 u4 u5 hu hqx _ (fun W hW => ihx (lv + 1) W B cv rv _ _ _ _ _ _ _ (Nat.le_trans hB hW.size) (hp.at hB hW) (hr.at hB hW) (hqx.at hB hW) (gx (by decide))) y z0 z1 z2 z3 z4 z5 hz hqy _ (fun W hW => ihy (lv + 1) W B cv rv _ _ _ _ _ _ _ (Nat.le_trans hB hW.size) (hp.at hB hW) (hr.at hB hW) (hqy.at hB hW) (gy (by decide))) bx by' (by omega)
      · cases hrec
    · have hn2 : n = 2 := by simp [kidN] at hkn; omega
      subst hn2
      obtain ⟨b', o, rfl, hbB, ⟨u0, u1, u2, u3, u4, u5, hu, hqx⟩, hyy⟩ := hk (by decide) (by decide)
      obtain ⟨z0, z1, z2, z3, z4, z5, hz, hqy⟩ := hyy (by decide)
      obtain ⟨lx, bx, _⟩ := fx (by decide) hqx.ne
      obtain ⟨ly, by', _⟩ := fy (by decide) hqy.ne
      simp [rec] at hrec
      split at hrec
      · rename_i he
        rw [ans_5]
        exact ans5_any c lo hi cv rv v4 b' o cap w B l ts wh hB hp hr hw hbB x u0 u1 u2 u3 u4 u5 hu hqx _ (fun W hW => ihx (lv + 1) W B cv rv _ _ _ _ _ _ _ (Nat.le_trans hB hW.size) (hp.at hB hW) (hr.at hB hW) (hqx.at hB hW) (gx (by decide))) y z0 z1 z2 z3 z4 z5 hz hqy _ (fun W hW => ihy (lv + 1) W B cv rv _ _ _ _ _ _ _ (Nat.le_trans hB hW.size) (hp.at hB hW) (hr.at hB hW) (hqy.at hB hW) (gy (by decide))) bx by' (by omega)
      · cases hrec
    · have hn2 : n = 1 := by simp [kidN] at hkn; omega
      subst hn2
      obtain ⟨b', o, rfl, hbB, ⟨u0, u1, u2, u3, u4, u5, hu, hqx⟩, _⟩ := hk (by decide) (by decide)
      obtain ⟨lx, bx, _⟩ := fx (by decide) hqx.ne
      simp [rec] at hrec
      split at hrec
      · rename_i hwr
        simp only [wrtB, decide_eq_true_eq] at hwr
        rw [ans_6]
        exact ans6_any c lo hi cv rv v4 b' o cap w B l ts wh hB hp hr hw hbB x u0 u1 u2 u3 u4 u5 hu hqx _ (fun W hW => ihx (lv + 1) W B cv rv _ _ _ _ _ _ _ (Nat.le_trans hB hW.size) (hp.at hB hW) (hr.at hB hW) (hqx.at hB hW) (gx (by decide))) bx ⟨hwr.1, hwr.2.2⟩
      · cases hrec
    · have hn2 : n = 2 := by simp [kidN] at hkn; omega
      subst hn2
      obtain ⟨b', o, rfl, hbB, ⟨u0, u1, u2, u3, u4, u5, hu, hqx⟩, hyy⟩ := hk (by decide) (by decide)
      obtain ⟨z0, z1, z2, z3, z4, z5, hz, hqy⟩ := hyy (by decide)
      obtain ⟨lx, bx, ox⟩ := fx (by decide) hqx.ne
      obtain ⟨ly, by', oy⟩ := fy (by decide) hqy.ne
      have h1 := ox.2.1
      have h2 := oy.2.1
      simp only at h1 h2
      rw [ans_7]
      exact ans7_any c lo hi cv rv v4 b' o cap w B l ts wh hB hp hr hw hbB x u0 u1 u2 u3 u4 u5 hu hqx _ (fun W hW => ihx (lv + 1) W B cv rv _ _ _ _ _ _ _ (Nat.le_trans hB hW.size) (hp.at hB hW) (hr.at hB hW) (hqx.at hB hW) (gx (by decide))) y z0 z1 z2 z3 z4 z5 hz hqy _ (fun W hW => ihy (lv + 1) W B cv rv _ _ _ _ _ _ _ (Nat.le_trans hB hW.size) (hp.at hB hW) (hr.at hB hW) (hqy.at hB hW) (gy (by decide))) (by omega)
    · have hn2 : n = 1 := by simp [kidN] at hkn; omega
      subst hn2
      obtain ⟨b', o, rfl, hbB, ⟨u0, u1, u2, u3, u4, u5, hu, hqx⟩, _⟩ := hk (by decide) (by decide)
      obtain ⟨lx, bx, ox⟩ := fx (by decide) hqx.ne
      have h1 := ox.2.1
      simp only at h1
      rw [ans_8]
      exact ans8_any c lo hi cv rv v4 b' o cap w B l ts wh hB hp hr hw hbB x u0 u1 u2 u3 u4 u5 hu hqx _ (fun W hW => ihx (lv + 1) W B cv rv _ _ _ _ _ _ _ (Nat.le_trans hB hW.size) (hp.at hB hW) (hr.at hB hW) (hqx.at hB hW) (gx (by decide))) bx (by omega)
    · have hn2 : n = 1 := by simp [kidN] at hkn; omega
      subst hn2
      obtain ⟨b', o, rfl, hbB, ⟨u0, u1, u2, u3, u4, u5, hu, hqx⟩, _⟩ := hk (by decide) (by decide)
      obtain ⟨lx, bx, _⟩ := fx (by decide) hqx.ne
      simp [rec] at hrec
      split at hrec
      · rename_i hlo
        obtain ⟨z, hz⟩ := get_lt (l := ans l (rr ts) x) (i := lo.toNat) (by omega)
        rw [ans_9, List.getD, hz]
        exact ans9_any c lo hi cv rv v4 b' o cap w B l ts wh hB hp hr hw hbB x u0 u1 u2 u3 u4 u5 hu hqx _ (fun W hW => ihx (lv + 1) W B cv rv _ _ _ _ _ _ _ (Nat.le_trans hB hW.size) (hp.at hB hW) (hr.at hB hW) (hqx.at hB hW) (gx (by decide))) lo.toNat z (by omega) hz
      · cases hrec
    · have hn2 : n = 1 := by simp [kidN] at hkn; omega
      subst hn2
      obtain ⟨b', o, rfl, hbB, ⟨u0, u1, u2, u3, u4, u5, hu, hqx⟩, _⟩ := hk (by decide) (by decide)
      obtain ⟨lx, bx, _⟩ := fx (by decide) hqx.ne
      simp [rec] at hrec
      split at hrec
      · rename_i hwr
        simp only [wrtB, decide_eq_true_eq] at hwr
        rw [ans_10]
        exact ans10_any c lo hi cv rv v4 b' o cap w B l ts wh hB hp hr hw hbB x u0 u1 u2 u3 u4 u5 hu hqx _ (fun W hW => ihx (lv + 1) W B cv rv _ _ _ _ _ _ _ (Nat.le_trans hB hW.size) (hp.at hB hW) (hr.at hB hW) (hqx.at hB hW) (gx (by decide))) bx hwr.2.1
      · cases hrec
end Go.Proofs.YtlndlpjadajelaaGreat.K

namespace Go.Proofs.YtlndlpjadajelaaGreat.K
open Go.RowKit Go.Proofs.YtlndlpjadajelaaGreat.K.Ds

set_option maxHeartbeats 400000 in
theorem rcol_any (B : Nat) (v : Value) (l : List Col) (s : ByteArray) (w : World) (hB : B ≤ w.heap.size) (hp : Cols w B v l) (r : Int) (hr : fnI l s = r) :
    Calls Tryz.prog 142 #[v, .string s] w fun e w' => e = .returned (.int .i64 r) ∧ Below w.heap.size w w' := by
  have HP : Hid (Cols w B v l) := hp
  have HR : Hid (fnI l s = r) := hr
  obtain ⟨a, c, rfl, hc, hl⟩ := hp.slice
  clear hr
  go_enter Tryz.func142, Tryz.ntmps142
  go_wp2
  go_loopw [9] (fun s' wr => ∃ (i : Nat), s' = .int .i64 (i : Int) ∧ i ≤ l.length ∧ Hid (NoC l s i) ∧ Below w.heap.size w wr) (fun s' _ => l.length - (intOf s').toNat)
  case atStart => exact ⟨0, rfl, Nat.zero_le _, fun j c hj => by omega, Below.refl _ _⟩
  case round =>
    obtain ⟨i, rfl, hi, HI, hbl⟩ := hrel
    by_cases h1 : i < l.length
    · obtain ⟨b, o, nm, sz, rfl, hb, hgt, c1, c2, hn⟩ := HP.out.get hB hbl h1
      have HG : Hid (l[i]? = some (nm, sz)) := hgt
      clear hgt
      have hq := str_eq nm s
      by_cases g1 : nm = s
      · have g1' : (nm.toList == s.toList) = true := by rw [hq]; simp [g1]
        obtain rfl : (i : Int) = r := by rw [← HR.out]; exact (fnI_some (fnd_hit HI.out HG.out g1)).symm
        clear hq g1
        go_wp2
        go_ret
        exact ⟨rfl, bal hbl _⟩
      · have g1' : (nm.toList == s.toList) = false := by rw [hq]; simp [g1]
        have HI2 : Hid (NoC l s (i + 1)) := HI.out.next HG.out g1
        clear hq g1
        go_wp2
        go_roundw
        case rel => exact ⟨i + 1, by go_num, h1, HI2, bal hbl _⟩
        case measure => simp [intOf]; omega
    · obtain rfl : -1 = r := by rw [← HR.out]; exact (fnI_none (fnd_no (by have := HI.out; rwa [show i = l.length by omega] at this))).symm
      go_wp2
      go_ret
      exact ⟨rfl, hbl⟩

set_option maxHeartbeats 1000000 in
theorem rtests_any (B : Nat) (lv v : Value) (l : List Col) (wh : List Tst) (w : World) (hB : B ≤ w.heap.size) (hp : Cols w B lv l) (hq : Tss w B v wh) (er : Int) (hr : whE l wh = er) :
    Calls Tryz.prog 182 #[lv, v] w fun e w' => e = .returned (.int .i64 er) ∧ Below w.heap.size w w' := by
  have HP : Hid (Cols w B lv l) := hp
  have HQ : Hid (Tss w B v wh) := hq
  have HR : Hid (whE l wh = er) := hr
  obtain ⟨a, c, rfl, hc, hl⟩ := hq.slice
  obtain ⟨a', c', rfl, hc', hl'⟩ := hp.slice
  clear hr
  go_enter Tryz.func182, Tryz.ntmps182
  by_cases h64 : 64 < wh.length
  · obtain rfl : 4 = er := by rw [← HR.out, whE, if_pos h64]
    have hle : (64 : Int) < (wh.length : Int) := by omega
    go_wp2
    go_ret
    exact ⟨rfl, Below.refl _ _⟩
  have HR2 : Hid (tsE l wh = er) := by have := HR.out; rwa [whE, if_neg h64] at this
  have hle : ¬ (64 : Int) < (wh.length : Int) := by omega
  go_wp2
  go_loopw [12] (fun s wr => ∃ (i : Nat), s = .int .i64 (i : Int) ∧ i ≤ wh.length ∧ Hid (tsE l (wh.drop i) = er) ∧ Below w.heap.size w wr) (fun s _ => wh.length - (intOf s).toNat)
  case atStart => exact ⟨0, rfl, Nat.zero_le _, by simpa [Hid] using HR2.out, Below.refl _ _⟩
  case round =>
    obtain ⟨i, rfl, hi, HI, hbl⟩ := hrel
    have hsz := hbl.size
    by_cases h1 : i < wh.length
    · obtain ⟨b, o, nm, d, z, rfl, hb, hgt, c1, c2, c3, hn⟩ := HQ.out.get hB hbl h1
      have HST : Hid (tsE l (wh.drop i) = if (fnd l nm).isSome then (if doB d then tsE l (wh.drop (i + 1)) else 1) else 7) := tsE_step hgt
      obtain ⟨fi, hfi⟩ : ∃ fi, fnI l nm = fi := ⟨_, rfl⟩
      have k1 := rcol_any B _ l nm (wr.alloc (.cells #[.string nm, .int .i64 d, .int .i64 z] 214)) (by simp; omega) ((HP.out.at hB hbl).at (by omega) (ba _ _)) fi hfi
      clear hgt
      go_wp2_with fail
      refine k1.mono ?_
      rintro e w3 ⟨rfl, hb3⟩
      clear k1
      have e1 : Cl w3 wr.heap.size 1 (.int .i64 d) := (Cl.new (w := wr) #[.string nm, .int .i64 d, .int .i64 z] 214 1 _ rfl rfl).at hb3
      have t1 := e1.c
      have hbw3 : Below w.heap.size w w3 := bt (bal hbl _) hb3
      by_cases hf : fi < 0
      · obtain rfl : 7 = er := by rw [← HI.out, HST.out, if_neg]; rw [← hfi] at hf; rw [fnI_neg.1 hf]; decide
        clear hfi
        go_wp2
        go_ret
        exact ⟨rfl, hbw3⟩
      · have HF : Hid ((fnd l nm).isSome = true) := by
          rw [← hfi] at hf
          cases hh : (fnd l nm).isSome with
          | true => rfl
          | false => exact absurd (fnI_neg.2 hh) hf
        clear hfi
        by_cases hd1 : d < 1
        · obtain rfl : 1 = er := by rw [← HI.out, HST.out, if_pos HF.out, if_neg]; simp [doB]; omega
          go_wp2
          go_ret
          exact ⟨rfl, hbw3⟩
        · by_cases hd2 : 6 < d
          · obtain rfl : 1 = er := by rw [← HI.out, HST.out, if_pos HF.out, if_neg]; simp [doB]; omega
            go_wp2
            go_ret
            exact ⟨rfl, hbw3⟩
          · have HI2 : Hid (tsE l (wh.drop (i + 1)) = er) := by have := HI.out; rwa [HST.out, if_pos HF.out, if_pos (by simp [doB]; omega)] at this
            go_wp2
            go_roundw
            case rel => exact ⟨i + 1, by go_num, h1, HI2, hbw3⟩
            case measure => simp [intOf]; omega
    · obtain rfl : 0 = er := by have := HI.out; rw [List.drop_of_length_le (by omega)] at this; exact this
      go_wp2
      go_ret
      exact ⟨rfl, hbl⟩

def ab (n : Int) : Int := if n < 0 then -n else n
theorem abs_any (n : Int) (hn : -9223372036854775807 ≤ n ∧ n ≤ 9223372036854775807) (w : World) : Calls Tryz.prog 185 #[.int .i64 n] w fun e w' => e = .returned (.int .i64 (ab n)) ∧ w' = w := by
  obtain ⟨h1, h2⟩ := hn
  go_enter Tryz.func185, Tryz.ntmps185
  by_cases h : n < 0
  · rw [ab, if_pos h]
    go_wp2
    go_ret
    exact ⟨rfl, rfl⟩
  · rw [ab, if_neg h]
    go_wp2
    go_ret
    exact ⟨rfl, rfl⟩
theorem greater_any (a b : Int) (w : World) : Calls Tryz.prog 184 #[.int .i64 a, .int .i64 b] w fun e w' => e = .returned (.int .i64 (mx a b)) ∧ w' = w := by
  go_enter Tryz.func184, Tryz.ntmps184
  by_cases h : b < a
  · rw [show mx a b = a by unfold mx; split <;> omega]
    go_wp2
    go_ret
    exact ⟨rfl, rfl⟩
  · rw [show mx a b = b by unfold mx; split <;> omega]
    go_wp2
    go_ret
    exact ⟨rfl, rfl⟩
theorem spn_ab {lo hi : Int} (h : wrtB lo hi = true) : mx (ab lo) (ab hi) = spn lo hi := by
  simp only [wrtB, decide_eq_true_eq] at h
  unfold mx ab spn
  repeat' split
  all_goals omega
theorem spn_ab1 {lo : Int} : ab lo = spn lo lo := by
  unfold ab spn
  repeat' split
  all_goals omega
theorem written_any (lo hi : Int) (w : World) (r : Bool) (hr : wrtB lo hi = r) : Calls Tryz.prog 183 #[.int .i64 lo, .int .i64 hi] w fun e w' => e = .returned (.bool r) ∧ w' = w := by
  go_enter Tryz.func183, Tryz.ntmps183
  by_cases h1 : -1048576 ≤ lo
  · by_cases h2 : lo ≤ hi
    · by_cases h3 : hi ≤ 1048576
      · obtain rfl : true = r := by rw [← hr]; simp [wrtB, h1, h2, h3]
        go_wp2
        go_ret
        exact ⟨rfl, rfl⟩
      · obtain rfl : false = r := by rw [← hr]; simp [wrtB, h1, h2, h3]
        have h4 : decide (hi ≤ 1048576) = false := decide_eq_false h3
        go_wp2
        go_ret
        exact ⟨by first | rfl | exact ret_b h4, rfl⟩
    · obtain rfl : false = r := by rw [← hr]; simp [wrtB, h1, h2]
      go_wp2
      go_ret
      exact ⟨rfl, rfl⟩
  · obtain rfl : false = r := by rw [← hr]; simp [wrtB, h1]
    go_wp2
    go_ret
    exact ⟨rfl, rfl⟩
theorem rkids_any (k : Int) (w : World) (n : Int) (hk : kidN k = n) : Calls Tryz.prog 141 #[.int .i64 k] w fun e w' => e = .returned (.int .i64 n) ∧ w' = w := by
  go_enter Tryz.func141, Tryz.ntmps141
  by_cases h1 : 1 ≤ k
  · by_cases h2 : k ≤ 3
    · obtain rfl : 0 = n := by rw [← hk, kidN, if_pos (by omega)]
      go_wp2
      go_ret
      exact ⟨rfl, rfl⟩
    by_cases h3 : k = 4
    · subst h3; subst hk; go_wp2; go_ret; exact ⟨rfl, rfl⟩
    by_cases h4 : k = 5
    · subst h4; subst hk; go_wp2; go_ret; exact ⟨rfl, rfl⟩
    by_cases h5 : k = 7
    · subst h5; subst hk; go_wp2; go_ret; exact ⟨rfl, rfl⟩
    have g3 : (k == 4) = false := by simpa using h3
    have g4 : (k == 5) = false := by simpa using h4
    have g5 : (k == 7) = false := by simpa using h5
    have h6 : 4 ≤ k := by omega
    by_cases h7 : k ≤ 10
    · obtain rfl : 1 = n := by rw [← hk, kidN, if_neg (by omega), if_pos (by omega)]
      go_wp2
      go_ret
      exact ⟨rfl, rfl⟩
    · obtain rfl : -1 = n := by rw [← hk, kidN, if_neg (by omega), if_neg (by omega), if_neg (by omega)]
      go_wp2
      go_ret
      exact ⟨rfl, rfl⟩
  · obtain rfl : -1 = n := by rw [← hk, kidN, if_neg (by omega), if_neg (by omega), if_neg (by omega)]
    have g3 : (k == 4) = false := by rw [beq_eq_false_iff_ne]; omega
    have g4 : (k == 5) = false := by rw [beq_eq_false_iff_ne]; omega
    have g5 : (k == 7) = false := by rw [beq_eq_false_iff_ne]; omega
    have h6 : ¬ 4 ≤ k := by omega
    go_wp2
    go_ret
    exact ⟨rfl, rfl⟩
end Go.Proofs.YtlndlpjadajelaaGreat.K
