import Derived.Test.YtejeiahbnnechaaAn3
namespace Go.Proofs.Ytejeiahbnnechaa
open Go.RowKit Go.Proofs.Ytejeiahbnnechaa.Ds

theorem Qm.ne {w : World} {B : Nat} {q : Qu} {v0 v1 v2 v3 v4 v5 : Value} (h : Qm w B q v0 v1 v2 v3 v4 v5) : q ≠ .none := by rintro rfl; exact h
theorem stp1 (a : Nat) (lo hi : Int) : stp 1 a lo hi = stp 1 0 0 0 := funext fun r => by simp [stp]
theorem stp3 (a : Nat) (lo hi : Int) : stp 3 a lo hi = stp 3 a 0 0 := funext fun r => by simp [stp]

theorem answer_any {l : List Col} (hs : Szs l) {ts : List Rw} (hlen : ts.length ≤ 4096) (hok : ∀ r ∈ rr ts, RowOk l r) (q : Qu) : ∀ (lv : Nat) (w : World) (B : Nat) (cv rv v0 v1 v2 v3 v4 v5 : Value) (b : Bnd), B ≤ w.heap.size → Cols w B cv l → Rws w B rv ts → Qm w B q v0 v1 v2 v3 v4 v5 → bnd l lv q = .ok b →
    Calls Try.prog 36 #[.agg #[cv, rv], .agg #[v0, v1, v2, v3, v4, v5]] w (AnsP w (ans l (rr ts) q)) := by
  have hrl : (rr ts).length ≤ 4096 := by rw [rr_len]; exact hlen
  induction q with
  | none => intro lv w B cv rv v0 v1 v2 v3 v4 v5 b _ _ _ h; exact h.elim
  | node k c lo hi wh n x y ihx ihy =>
    rintro lv w B cv rv _ _ _ _ v4 _ b hB hp hr ⟨rfl, rfl, rfl, rfl, hc, hw, a, cap, rfl, hn, hm, hk⟩ hb
    obtain ⟨hkn, ⟨x1, x2, x3⟩, ⟨y1, y2, y3⟩, hbx, hby, hrec, hlim⟩ := lim_inv hb
    have gx : 1 ≤ n → bnd l (lv + 1) x = .ok (x1, x2, x3) := fun h => by rwa [ifK, if_pos h] at hbx
    have gy : 2 ≤ n → bnd l (lv + 1) y = .ok (y1, y2, y3) := fun h => by rwa [ifK, if_pos h] at hby
    have fx : 1 ≤ n → x ≠ .none → ((ans l (rr ts) x).length : Int) = x1 ∧ Bdd 1099511627776 (ans l (rr ts) x) ∧ BOk (x1, x2, x3) := fun h hx => by
      have h1 := ans_ok hs hrl x _ _ (gx h) hx
      have h2 := bnd_bd hs x _ _ (gx h)
      exact ⟨h1.1, h1.2.mono h2.2.2.2.2.2, h2⟩
    have fy : 2 ≤ n → y ≠ .none → ((ans l (rr ts) y).length : Int) = y1 ∧ Bdd 1099511627776 (ans l (rr ts) y) ∧ BOk (y1, y2, y3) := fun h hy => by
      have h1 := ans_ok hs hrl y _ _ (gy h) hy
      have h2 := bnd_bd hs y _ _ (gy h)
      exact ⟨h1.1, h1.2.mono h2.2.2.2.2.2, h2⟩
    have hkv : ∃ a' n' cc, Value.slice a n cap = .slice a' n' cc := ⟨_, _, _, rfl⟩
    have hkc : ¬ kidN k < 0 := by omega
    rcases kidN_cases hkc with rfl | rfl | rfl | rfl | rfl | rfl | rfl | rfl | rfl | rfl
    · simp [rec] at hrec
      obtain ⟨hwe, _⟩ := ifW_ok hrec
      rw [ans_leaf _ _ _ _ _ _ _ _ _ (by simp), stp1]
      exact ans1_any c lo hi cv rv v4 _ w B l ts wh hB hp hr hw hlen hok hkv hwe
    · simp [rec] at hrec
      split at hrec
      · rename_i hf
        split at hrec
        · rename_i hwr
          obtain ⟨hwe, _⟩ := ifW_ok hrec
          obtain ⟨at', hat⟩ := Option.isSome_iff_exists.1 hf
          rw [ans_leaf _ _ _ _ _ _ _ _ _ (by simp), hat]
          exact ans2_any c lo hi cv rv v4 _ w B l ts wh hB hp hr hw hlen hok hkv hwe at' hat hwr
        · cases hrec
      · cases hrec
    · simp [rec] at hrec
      split at hrec
      · rename_i at' hat
        obtain ⟨hwe, _⟩ := ifW_ok hrec
        have hsz := szC_bd hs hat
        rw [ans_leaf _ _ _ _ _ _ _ _ _ (by simp), hat, stp3]
        exact ans3_any c lo hi cv rv v4 _ w B l ts wh hB hp hr hw hlen hok hkv hwe at' hat (szC l at').toNat (by omega) (by omega)
      · cases hrec
    · have hn2 : n = 2 := by simp [kidN] at hkn; omega
      subst hn2
      obtain ⟨b', o, rfl, hbB, ⟨u0, u1, u2, u3, u4, u5, hu, hqx⟩, hyy⟩ := hk (by decide) (by decide)
      obtain ⟨z0, z1, z2, z3, z4, z5, hz, hqy⟩ := hyy (by decide)
      obtain ⟨lx, bx, _⟩ := fx (by decide) hqx.ne
      obtain ⟨ly, by', _⟩ := fy (by decide) hqy.ne
      simp [rec] at hrec
      split at hrec
      · rename_i he
        rw [ans_4]
        exact ans4_any c lo hi cv rv v4 b' o cap w B l ts wh hB hp hr hw hbB x u0 u1 u2 u3 u4 u5 hu hqx _ (fun W hW => ihx (lv + 1) W B cv rv _ _ _ _ _ _ _ (Nat.le_trans hB hW.size) (hp.at hB hW) (hr.at hB hW) (hqx.at hB hW) (gx (by decide))) y z0 z1 z2 z3 z4 z5 hz hqy _ (fun W hW => ihy (lv + 1) W B cv rv _ _ _ _ _ _ _ (Nat.le_trans hB hW.size) (hp.at hB hW) (hr.at hB hW) (hqy.at hB hW) (gy (by decide))) bx by' (by omega)
      · cases hrec
    · have hn2 : n = 2 := by simp [kidN] at hkn; omega
      subst hn2
      obtain ⟨b', o, rfl, hbB, ⟨u0, u1, u2, u3, u4, u5, hu, hqx⟩, hyy⟩ := hk (by decide) (by decide)
      obtain ⟨z0, z1, z2, z3, z4, z5, hz, hqy⟩ := hyy (by decide)
      obtain ⟨lx, bx, _⟩ := fx (by decide) hqx.ne
      obtain ⟨ly, by', _⟩ := fy (by decide) hqy.ne
      simp [rec] at hrec
      split at hrec
      · rename_i he
        rw [ans_5]
        exact ans5_any c lo hi cv rv v4 b' o cap w B l ts wh hB hp hr hw hbB x u0 u1 u2 u3 u4 u5 hu hqx _ (fun W hW => ihx (lv + 1) W B cv rv _ _ _ _ _ _ _ (Nat.le_trans hB hW.size) (hp.at hB hW) (hr.at hB hW) (hqx.at hB hW) (gx (by decide))) y z0 z1 z2 z3 z4 z5 hz hqy _ (fun W hW => ihy (lv + 1) W B cv rv _ _ _ _ _ _ _ (Nat.le_trans hB hW.size) (hp.at hB hW) (hr.at hB hW) (hqy.at hB hW) (gy (by decide))) bx by' (by omega)
      · cases hrec
    · have hn2 : n = 1 := by simp [kidN] at hkn; omega
      subst hn2
      obtain ⟨b', o, rfl, hbB, ⟨u0, u1, u2, u3, u4, u5, hu, hqx⟩, _⟩ := hk (by decide) (by decide)
      obtain ⟨lx, bx, _⟩ := fx (by decide) hqx.ne
      simp [rec] at hrec
      split at hrec
      · rename_i hwr
        simp only [wrtB, decide_eq_true_eq] at hwr
        rw [ans_6]
        exact ans6_any c lo hi cv rv v4 b' o cap w B l ts wh hB hp hr hw hbB x u0 u1 u2 u3 u4 u5 hu hqx _ (fun W hW => ihx (lv + 1) W B cv rv _ _ _ _ _ _ _ (Nat.le_trans hB hW.size) (hp.at hB hW) (hr.at hB hW) (hqx.at hB hW) (gx (by decide))) bx ⟨hwr.1, hwr.2.2⟩
      · cases hrec
    · have hn2 : n = 2 := by simp [kidN] at hkn; omega
      subst hn2
      obtain ⟨b', o, rfl, hbB, ⟨u0, u1, u2, u3, u4, u5, hu, hqx⟩, hyy⟩ := hk (by decide) (by decide)
      obtain ⟨z0, z1, z2, z3, z4, z5, hz, hqy⟩ := hyy (by decide)
      obtain ⟨lx, bx, ox⟩ := fx (by decide) hqx.ne
      obtain ⟨ly, by', oy⟩ := fy (by decide) hqy.ne
      have h1 := ox.2.1
      have h2 := oy.2.1
      simp only at h1 h2
      rw [ans_7]
      exact ans7_any c lo hi cv rv v4 b' o cap w B l ts wh hB hp hr hw hbB x u0 u1 u2 u3 u4 u5 hu hqx _ (fun W hW => ihx (lv + 1) W B cv rv _ _ _ _ _ _ _ (Nat.le_trans hB hW.size) (hp.at hB hW) (hr.at hB hW) (hqx.at hB hW) (gx (by decide))) y z0 z1 z2 z3 z4 z5 hz hqy _ (fun W hW => ihy (lv + 1) W B cv rv _ _ _ _ _ _ _ (Nat.le_trans hB hW.size) (hp.at hB hW) (hr.at hB hW) (hqy.at hB hW) (gy (by decide))) (by omega)
    · have hn2 : n = 1 := by simp [kidN] at hkn; omega
      subst hn2
      obtain ⟨b', o, rfl, hbB, ⟨u0, u1, u2, u3, u4, u5, hu, hqx⟩, _⟩ := hk (by decide) (by decide)
      obtain ⟨lx, bx, ox⟩ := fx (by decide) hqx.ne
      have h1 := ox.2.1
      simp only at h1
      rw [ans_8]
      exact ans8_any c lo hi cv rv v4 b' o cap w B l ts wh hB hp hr hw hbB x u0 u1 u2 u3 u4 u5 hu hqx _ (fun W hW => ihx (lv + 1) W B cv rv _ _ _ _ _ _ _ (Nat.le_trans hB hW.size) (hp.at hB hW) (hr.at hB hW) (hqx.at hB hW) (gx (by decide))) bx (by omega)
    · have hn2 : n = 1 := by simp [kidN] at hkn; omega
      subst hn2
      obtain ⟨b', o, rfl, hbB, ⟨u0, u1, u2, u3, u4, u5, hu, hqx⟩, _⟩ := hk (by decide) (by decide)
      obtain ⟨lx, bx, _⟩ := fx (by decide) hqx.ne
      simp [rec] at hrec
      split at hrec
      · rename_i hlo
        obtain ⟨z, hz⟩ := get_lt (l := ans l (rr ts) x) (i := lo.toNat) (by omega)
        rw [ans_9, List.getD, hz]
        exact ans9_any c lo hi cv rv v4 b' o cap w B l ts wh hB hp hr hw hbB x u0 u1 u2 u3 u4 u5 hu hqx _ (fun W hW => ihx (lv + 1) W B cv rv _ _ _ _ _ _ _ (Nat.le_trans hB hW.size) (hp.at hB hW) (hr.at hB hW) (hqx.at hB hW) (gx (by decide))) lo.toNat z (by omega) hz
      · cases hrec
    · have hn2 : n = 1 := by simp [kidN] at hkn; omega
      subst hn2
      obtain ⟨b', o, rfl, hbB, ⟨u0, u1, u2, u3, u4, u5, hu, hqx⟩, _⟩ := hk (by decide) (by decide)
      obtain ⟨lx, bx, _⟩ := fx (by decide) hqx.ne
      simp [rec] at hrec
      split at hrec
      · rename_i hwr
        simp only [wrtB, decide_eq_true_eq] at hwr
        rw [ans_10]
        exact ans10_any c lo hi cv rv v4 b' o cap w B l ts wh hB hp hr hw hbB x u0 u1 u2 u3 u4 u5 hu hqx _ (fun W hW => ihx (lv + 1) W B cv rv _ _ _ _ _ _ _ (Nat.le_trans hB hW.size) (hp.at hB hW) (hr.at hB hW) (hqx.at hB hW) (gx (by decide))) bx hwr.2.1
      · cases hrec
end Go.Proofs.Ytejeiahbnnechaa
