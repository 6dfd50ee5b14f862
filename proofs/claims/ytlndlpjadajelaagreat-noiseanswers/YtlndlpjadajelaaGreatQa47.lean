import Derived.Test.YtlndlpjadajelaaGreatQa46
import Derived.Test.YtlndlpjadajelaaGreatQa41
import Derived.Test.YtlndlpjadajelaaGreatQa43
import Derived.Test.YtlndlpjadajelaaGreatQa44
import Derived.Test.YtlndlpjadajelaaGreatQa45
namespace Go.Proofs.YtlndlpjadajelaaGreat.K
open Go.RowKit Go.Proofs.YtlndlpjadajelaaGreat.K.Ds

theorem Qm.ne {w : World} {B : Nat} {q : Qu} {v0 v1 v2 v3 v4 v5 : Value} (h : Qm w B q v0 v1 v2 v3 v4 v5) : q ≠ .none := by rintro rfl; exact h
theorem stp1 (a : Nat) (lo hi : Int) : stp 1 a lo hi = stp 1 0 0 0 := funext fun r => by simp [stp]
theorem stp3 (a : Nat) (lo hi : Int) : stp 3 a lo hi = stp 3 a 0 0 := funext fun r => by simp [stp]

theorem answer_any {l : List Col} (hs : Szs l) {ts : List Rw} (hlen : ts.length ≤ 4096) (hok : ∀ r ∈ rr ts, RowOk l r) (q : Qu) : ∀ (lv : Nat) (w : World) (B : Nat) (cv rv v0 v1 v2 v3 v4 v5 : Value) (b : Bnd), B ≤ w.heap.size → Cols w B cv l → Rws w B rv ts → Qm w B q v0 v1 v2 v3 v4 v5 → bnd l lv q = .ok b →
    Calls Tryz.prog 73 #[.agg #[cv, rv], .agg #[v0, v1, v2, v3, v4, v5]] w (AnsP w (ans l (rr ts) q)) := by
  have hrl : (rr ts).length ≤ 4096 := by rw [rr_len]; exact hlen
  induction q with
  | none => intro lv w B cv rv v0 v1 v2 v3 v4 v5 b _ _ _ h; exact h.elim
  | node k c lo hi wh n x y ihx ihy =>
    rintro lv w B cv rv _ _ _ _ v4 _ b hB hp hr ⟨rfl, rfl, rfl, rfl, hc, hw, a, cap, rfl, hn, hm, hk⟩ hb
    obtain ⟨hkn, ⟨x1, x2, x3⟩, ⟨y1, y2, y3⟩, hbx, hby, hrec, hlim⟩ := lim_inv hb
    have gx : 1 ≤ n → bnd l (lv + 1) x = .ok (x1, x2, x3) := fun h => by rwa [ifK, if_pos h] at hbx
    have gy : 2 ≤ n → bnd l (lv + 1) y = .ok (y1, y2, y3) := fun h => by rwa [ifK, if_pos h] at hby
    have fx : 1 ≤ n → x ≠ .none → ((ans l (rr ts) x).length : Int) = x1 ∧ Bdd 1099511627776 (ans l (rr ts) x) ∧ BOk (x1, x2, x3) := fun h hx => by
      have h1 := ans_ok hs hrl x _ _ (gx h) hx
      have h2 := bnd_bd hs x _ _ (gx h)
      exact ⟨h1.1, h1.2.mono h2.2.2.2.2.2, h2⟩
    have fy : 2 ≤ n → y ≠ .none → ((ans l (rr ts) y).length : Int) = y1 ∧ Bdd 1099511627776 (ans l (rr ts) y) ∧ BOk (y1, y2, y3) := fun h hy => by
      have h1 := ans_ok hs hrl y _ _ (gy h) hy
      have h2 := bnd_bd hs y _ _ (gy h)
      exact ⟨h1.1, h1.2.mono h2.2.2.2.2.2, h2⟩
    have hkv : ∃ a' n' cc, Value.slice a n cap = .slice a' n' cc := ⟨_, _, _, rfl⟩
    have hkc : ¬ kidN k < 0 := by omega
    rcases kidN_cases hkc with rfl | rfl | rfl | rfl | rfl | rfl | rfl | rfl | rfl | rfl
    · simp [rec] at hrec
      obtain ⟨hwe, _⟩ := ifW_ok hrec
      rw [ans_leaf _ _ _ _ _ _ _ _ _ (by simp), stp1]
      exact ans1_any c lo hi cv rv v4 _ w B l ts wh hB hp hr hw hlen hok hkv hwe
    · simp [rec] at hrec
      split at hrec
      · rename_i hf
        split at hrec
        · rename_i hwr
          obtain ⟨hwe, _⟩ := ifW_ok hrec
          obtain ⟨at', hat⟩ := Option.isSome_iff_exists.1 hf
          rw [ans_leaf _ _ _ _ _ _ _ _ _ (by simp), hat]
          exact ans2_any c lo hi cv rv v4 _ w B l ts wh hB hp hr hw hlen hok hkv hwe at' hat hwr
        · cases hrec
      · cases hrec
    · simp [rec] at hrec
      split at hrec
      · rename_i at' hat
        obtain ⟨hwe, _⟩ := ifW_ok hrec
        have hsz := szC_bd hs hat
        rw [ans_leaf _ _ _ _ _ _ _ _ _ (by simp), hat, stp3]
        exact ans3_any c lo hi cv rv v4 _ w B l ts wh hB hp hr hw hlen hok hkv hwe at' hat (szC l at').toNat (by omega) (by omega)
      · cases hrec
    · have hn2 : n = 2 := by simp [kidN] at hkn; omega
      subst hn2
      obtain ⟨b', o, rfl, hbB, ⟨u0, u1, u2, u3, u4, u5, hu, hqx⟩, hyy⟩ := hk (by decide) (by decide)
      obtain ⟨z0, z1, z2, z3, z4, z5, hz, hqy⟩ := hyy (by decide)
      obtain ⟨lx, bx, _⟩ := fx (by decide) hqx.ne
      obtain ⟨ly, by', _⟩ := fy (by decide) hqy.ne
      simp [rec] at hrec
      split at hrec
      · rename_i he
        rw [ans_4]
        exact ans4_any c lo hi cv rv v4 b' o cap w B l ts wh hB hp hr hw hbB x u0 u1 u2 u3 u4 u5 hu hqx _ (fun W hW => ihx (lv + 1) W B cv rv _ _ _ _ _ _ _ (Nat.le_trans hB hW.size) (hp.at hB hW) (hr.at hB hW) (hqx.at hB hW) (gx (by decide))) y z0 z1 z2 z3 z4 z5 hz hqy _ (fun W hW => ihy (lv + 1) W B cv rv _ _ _ _ _ _ _ (Nat.le_trans hB hW.size) (hp.at hB hW) (hr.at hB hW) (hqy.at hB hW) (gy (by decide))) bx by' (by omega)
      · cases hrec
    · have hn2 : n = 2 := by simp [kidN] at hkn; omega
      subst hn2
      obtain ⟨b', o, rfl, hbB, ⟨u0, u1, u2, u3, u4, u5, hu, hqx⟩, hyy⟩ := hk (by decide) (by decide)
      obtain ⟨z0, z1, z2, z3, z4, z5, hz, hqy⟩ := hyy (by decide)
      obtain ⟨lx, bx, _⟩ := fx (by decide) hqx.ne
      obtain ⟨ly, by', _⟩ := fy (by decide) hqy.ne
      simp [rec] at hrec
      split at hrec
      · rename_i he
        rw [ans_5]
        exact ans5_any c lo hi cv rv v4 b' o cap w B l ts wh hB hp hr hw hbB x u0 u1 u2 u3 u4 u5 hu hqx _ (fun W hW => ihx (lv + 1) W B cv rv _ _ _ _ _ _ _ (Nat.le_trans hB hW.size) (hp.at hB hW) (hr.at hB hW) (hqx.at hB hW) (gx (by decide))) y z0 z1 z2 z3 z4 z5 hz hqy _ (fun W hW => ihy (lv + 1) W B cv rv _ _ _ _ _ _ _ (Nat.le_trans hB hW.size) (hp.at hB hW) (hr.at hB hW) (hqy.at hB hW) (gy (by decide))) bx by' (by omega)
      · cases hrec
    · have hn2 : n = 1 := by simp [kidN] at hkn; omega
      subst hn2
      obtain ⟨b', o, rfl, hbB, ⟨u0, u1, u2, u3, u4, u5, hu, hqx⟩, _⟩ := hk (by decide) (by decide)
      obtain ⟨lx, bx, _⟩ := fx (by decide) hqx.ne
      simp [rec] at hrec
      split at hrec
      · rename_i hwr
        simp only [wrtB, decide_eq_true_eq] at hwr
        rw [ans_6]
        exact ans6_any c lo hi cv rv v4 b' o cap w B l ts wh hB hp hr hw hbB x u0 u1 u2 u3 u4 u5 hu hqx _ (fun W hW => ihx (lv + 1) W B cv rv _ _ _ _ _ _ _ (Nat.le_trans hB hW.size) (hp.at hB hW) (hr.at hB hW) (hqx.at hB hW) (gx (by decide))) bx ⟨hwr.1, hwr.2.2⟩
      · cases hrec
    · have hn2 : n = 2 := by simp [kidN] at hkn; omega
      subst hn2
      obtain ⟨b', o, rfl, hbB, ⟨u0, u1, u2, u3, u4, u5, hu, hqx⟩, hyy⟩ := hk (by decide) (by decide)
      obtain ⟨z0, z1, z2, z3, z4, z5, hz, hqy⟩ := hyy (by decide)
      obtain ⟨lx, bx, ox⟩ := fx (by decide) hqx.ne
      obtain ⟨ly, by', oy⟩ := fy (by decide) hqy.ne
      have h1 := ox.2.1
      have h2 := oy.2.1
      simp only at h1 h2
      rw [ans_7]
      exact ans7_any c lo hi cv rv v4 b' o cap w B l ts wh hB hp hr hw hbB x u0 u1 u2 u3 u4 u5 hu hqx _ (fun W hW => ihx (lv + 1) W B cv rv _ _ _ _ _ _ _ (Nat.le_trans hB hW.size) (hp.at hB hW) (hr.at hB hW) (hqx.at hB hW) (gx (by decide))) y z0 z1 z2 z3 z4 z5 hz hqy _ (fun W hW => ihy (lv + 1) W B cv rv _ _ _ _ _ _ _ (Nat.le_trans hB hW.size) (hp.at hB hW) (hr.at hB hW) (hqy.at hB hW) (gy (by decide))) (by omega)
    · have hn2 : n = 1 := by simp [kidN] at hkn; omega
      subst hn2
      obtain ⟨b', o, rfl, hbB, ⟨u0, u1, u2, u3, u4, u5, hu, hqx⟩, _⟩ := hk (by decide) (by decide)
      obtain ⟨lx, bx, ox⟩ := fx (by decide) hqx.ne
      have h1 := ox.2.1
      simp only at h1
      rw [ans_8]
      exact ans8_any c lo hi cv rv v4 b' o cap w B l ts wh hB hp hr hw hbB x u0 u1 u2 u3 u4 u5 hu hqx _ (fun W hW => ihx (lv + 1) W B cv rv _ _ _ _ _ _ _ (Nat.le_trans hB hW.size) (hp.at hB hW) (hr.at hB hW) (hqx.at hB hW) (gx (by decide))) bx (by omega)
    · have hn2 : n = 1 := by simp [kidN] at hkn; omega
      subst hn2
      obtain ⟨b', o, rfl, hbB, ⟨u0, u1, u2, u3, u4, u5, hu, hqx⟩, _⟩ := hk (by decide) (by decide)
      obtain ⟨lx, bx, _⟩ := fx (by decide) hqx.ne
      simp [rec] at hrec
      split at hrec
      · rename_i hlo
        obtain ⟨z, hz⟩ := get_lt (l := ans l (rr ts) x) (i := lo.toNat) (by omega)
        rw [ans_9, List.getD, hz]
        exact ans9_any c lo hi cv rv v4 b' o cap w B l ts wh hB hp hr hw hbB x u0 u1 u2 u3 u4 u5 hu hqx _ (fun W hW => ihx (lv + 1) W B cv rv _ _ _ _ _ _ _ (Nat.le_trans hB hW.size) (hp.at hB hW) (hr.at hB hW) (hqx.at hB hW) (gx (by decide))) lo.toNat z (by omega) hz
      · cases hrec
    · have hn2 : n = 1 := by simp [kidN] at hkn; omega
      subst hn2
      obtain ⟨b', o, rfl, hbB, ⟨u0, u1, u2, u3, u4, u5, hu, hqx⟩, _⟩ := hk (by decide) (by decide)
      obtain ⟨lx, bx, _⟩ := fx (by decide) hqx.ne
      simp [rec] at hrec
      split at hrec
      · rename_i hwr
        simp only [wrtB, decide_eq_true_eq] at hwr
        rw [ans_10]
        exact ans10_any c lo hi cv rv v4 b' o cap w B l ts wh hB hp hr hw hbB x u0 u1 u2 u3 u4 u5 hu hqx _ (fun W hW => ihx (lv + 1) W B cv rv _ _ _ _ _ _ _ (Nat.le_trans hB hW.size) (hp.at hB hW) (hr.at hB hW) (hqx.at hB hW) (gx (by decide))) bx hwr.2.1
      · cases hrec
end Go.Proofs.YtlndlpjadajelaaGreat.K

namespace Go.Proofs.YtlndlpjadajelaaGreat.K
open Go.RowKit Go.Proofs.YtlndlpjadajelaaGreat.K.Ds

/-- no answer is empty -/
theorem qm_one {l : List Col} (hs : Szs l) {w : World} {B : Nat} (q : Qu) : ∀ (lv : Nat) (b : Bnd) (v0 v1 v2 v3 v4 v5 : Value), Qm w B q v0 v1 v2 v3 v4 v5 → bnd l lv q = .ok b → 1 ≤ b.1 := by
  induction q with
  | none => intro lv b v0 v1 v2 v3 v4 v5 h; exact h.elim
  | node k c lo hi wh n x y ihx ihy =>
    rintro lv b _ _ _ _ v4 _ ⟨rfl, rfl, rfl, rfl, hc, hw, a, cap, rfl, hn, hm, hk⟩ hb
    obtain ⟨hkn, ⟨x1, x2, x3⟩, ⟨y1, y2, y3⟩, hbx, hby, hrec, hlim⟩ := lim_inv hb
    have gx : 1 ≤ n → bnd l (lv + 1) x = .ok (x1, x2, x3) := fun h => by rwa [ifK, if_pos h] at hbx
    have hkc : ¬ kidN k < 0 := by omega
    have fx : 1 ≤ n → n ≤ 2 → 1 ≤ x1 := fun h1 h2 => by
      obtain ⟨b', o, _, _, ⟨u0, u1, u2, u3, u4, u5, _, hqx⟩, _⟩ := hk h1 h2
      exact ihx _ _ _ _ _ _ _ _ hqx (gx h1)
    rcases kidN_cases hkc with rfl | rfl | rfl | rfl | rfl | rfl | rfl | rfl | rfl | rfl
    · simp [rec] at hrec
      obtain ⟨_, rfl⟩ := ifW_ok hrec
      exact Int.le_refl _
    · simp [rec] at hrec
      split at hrec
      · split at hrec
        · obtain ⟨_, rfl⟩ := ifW_ok hrec; exact Int.le_refl _
        · cases hrec
      · cases hrec
    · simp [rec] at hrec
      split at hrec
      · rename_i i hf
        obtain ⟨_, rfl⟩ := ifW_ok hrec
        exact (szC_bd hs hf).1
      · cases hrec
    · have := fx (by simp [kidN] at hkn; omega) (by simp [kidN] at hkn; omega)
      simp [rec] at hrec
      split at hrec
      · cases hrec; exact this
      · cases hrec
    · have := fx (by simp [kidN] at hkn; omega) (by simp [kidN] at hkn; omega)
      simp [rec] at hrec
      split at hrec
      · cases hrec; exact this
      · cases hrec
    · have := fx (by simp [kidN] at hkn; omega) (by simp [kidN] at hkn; omega)
      simp [rec] at hrec
      split at hrec
      · cases hrec; exact this
      · cases hrec
    · have h1 := fx (by simp [kidN] at hkn; omega) (by simp [kidN] at hkn; omega)
      have h2 : 0 ≤ y1 := by
        have : bnd l (lv + 1) y = .ok (y1, y2, y3) := by rwa [ifK, if_pos (by simp [kidN] at hkn; omega)] at hby
        exact (bnd_bd hs y _ _ this).1
      simp [rec] at hrec
      subst hrec
      show 1 ≤ x1 + y1
      omega
    · simp [rec] at hrec
      subst hrec
      exact Int.le_refl _
    · simp [rec] at hrec
      split at hrec
      · cases hrec; exact Int.le_refl _
      · cases hrec
    · have := fx (by simp [kidN] at hkn; omega) (by simp [kidN] at hkn; omega)
      simp [rec] at hrec
      split at hrec
      · cases hrec; exact this
      · cases hrec

theorem ranswer_any {l : List Col} (hs : Szs l) {ts : List Rw} (hlen : ts.length ≤ 4096) (hok : ∀ r ∈ rr ts, RowOk l r) (q : Qu) : ∀ (lv : Nat) (w : World) (B : Nat) (cv rv v0 v1 v2 v3 v4 v5 : Value) (b : Bnd), B ≤ w.heap.size → Cols w B cv l → Rws w B rv ts → Qm w B q v0 v1 v2 v3 v4 v5 → bnd l lv q = .ok b →
    Calls Tryz.prog 77 #[.agg #[cv, rv], .agg #[v0, v1, v2, v3, v4, v5]] w (AnsR w (ans l (rr ts) q)) := by
  have hrl : (rr ts).length ≤ 4096 := by rw [rr_len]; exact hlen
  induction q with
  | none => intro lv w B cv rv v0 v1 v2 v3 v4 v5 b _ _ _ h; exact h.elim
  | node k c lo hi wh n x y ihx ihy =>
    rintro lv w B cv rv _ _ _ _ v4 _ b hB hp hr ⟨rfl, rfl, rfl, rfl, hc, hw, a, cap, rfl, hn, hm, hk⟩ hb
    obtain ⟨hkn, ⟨x1, x2, x3⟩, ⟨y1, y2, y3⟩, hbx, hby, hrec, hlim⟩ := lim_inv hb
    have gx : 1 ≤ n → bnd l (lv + 1) x = .ok (x1, x2, x3) := fun h => by rwa [ifK, if_pos h] at hbx
    have gy : 2 ≤ n → bnd l (lv + 1) y = .ok (y1, y2, y3) := fun h => by rwa [ifK, if_pos h] at hby
    have fx : 1 ≤ n → x ≠ .none → ((ans l (rr ts) x).length : Int) = x1 ∧ Bdd 1099511627776 (ans l (rr ts) x) ∧ BOk (x1, x2, x3) := fun h hx => by
      have h1 := ans_ok hs hrl x _ _ (gx h) hx
      have h2 := bnd_bd hs x _ _ (gx h)
      exact ⟨h1.1, h1.2.mono h2.2.2.2.2.2, h2⟩
    have fy : 2 ≤ n → y ≠ .none → ((ans l (rr ts) y).length : Int) = y1 ∧ Bdd 1099511627776 (ans l (rr ts) y) ∧ BOk (y1, y2, y3) := fun h hy => by
      have h1 := ans_ok hs hrl y _ _ (gy h) hy
      have h2 := bnd_bd hs y _ _ (gy h)
      exact ⟨h1.1, h1.2.mono h2.2.2.2.2.2, h2⟩
    have hkv : ∃ a' n' cc, Value.slice a n cap = .slice a' n' cc := ⟨_, _, _, rfl⟩
    have hkc : ¬ kidN k < 0 := by omega
    rcases kidN_cases hkc with rfl | rfl | rfl | rfl | rfl | rfl | rfl | rfl | rfl | rfl
    · simp [rec] at hrec
      obtain ⟨hwe, _⟩ := ifW_ok hrec
      rw [ans_leaf _ _ _ _ _ _ _ _ _ (by simp), stp1]
      exact ran1_any c lo hi cv rv v4 _ w B l ts wh hB hp hr hw hlen hok hkv hwe
    · simp [rec] at hrec
      split at hrec
      · rename_i hf
        split at hrec
        · rename_i hwr
          obtain ⟨hwe, _⟩ := ifW_ok hrec
          obtain ⟨at', hat⟩ := Option.isSome_iff_exists.1 hf
          rw [ans_leaf _ _ _ _ _ _ _ _ _ (by simp), hat]
          exact ran2_any c lo hi cv rv v4 _ w B l ts wh hB hp hr hw hlen hok hkv hwe at' hat hwr
        · cases hrec
      · cases hrec
    · simp [rec] at hrec
      split at hrec
      · rename_i at' hat
        obtain ⟨hwe, _⟩ := ifW_ok hrec
        have hsz := szC_bd hs hat
        rw [ans_leaf _ _ _ _ _ _ _ _ _ (by simp), hat, stp3]
        exact ran3_any c lo hi cv rv v4 _ w B l ts wh hB hp hr hw hlen hok hkv hwe at' hat (szC l at').toNat (by omega) (by omega)
      · cases hrec
    · have hn2 : n = 2 := by simp [kidN] at hkn; omega
      subst hn2
      obtain ⟨b', o, rfl, hbB, ⟨u0, u1, u2, u3, u4, u5, hu, hqx⟩, hyy⟩ := hk (by decide) (by decide)
      obtain ⟨z0, z1, z2, z3, z4, z5, hz, hqy⟩ := hyy (by decide)
      obtain ⟨lx, bx, ox⟩ := fx (by decide) hqx.ne
      obtain ⟨ly, by', _⟩ := fy (by decide) hqy.ne
      have h1 := ox.2.1
      simp only at h1
      simp [rec] at hrec
      split at hrec
      · rename_i he
        rw [ans_4]
        exact ran4_any c lo hi cv rv v4 b' o cap w B l ts wh hB hp hr hw hbB x u0 u1 u2 u3 u4 u5 hu hqx _ (fun W hW => ihx (lv + 1) W B cv rv _ _ _ _ _ _ _ (Nat.le_trans hB hW.size) (hp.at hB hW) (hr.at hB hW) (hqx.at hB hW) (gx (by decide))) y z0 z1 z2 z3 z4 z5 hz hqy _ (fun W hW => ihy (lv + 1) W B cv rv _ _ _ _ _ _ _ (Nat.le_trans hB hW.size) (hp.at hB hW) (hr.at hB hW) (hqy.at hB hW) (gy (by decide))) bx by' (by omega) (by omega)
      · cases hrec
    · have hn2 : n = 2 := by simp [kidN] at hkn; omega
      subst hn2
      obtain ⟨b', o, rfl, hbB, ⟨u0, u1, u2, u3, u4, u5, hu, hqx⟩, hyy⟩ := hk (by decide) (by decide)
      obtain ⟨z0, z1, z2, z3, z4, z5, hz, hqy⟩ := hyy (by decide)
      obtain ⟨lx, bx, ox⟩ := fx (by decide) hqx.ne
      obtain ⟨ly, by', _⟩ := fy (by decide) hqy.ne
      have h1 := ox.2.1
      simp only at h1
      simp [rec] at hrec
      split at hrec
      · rename_i he
        rw [ans_5]
        exact ran5_any c lo hi cv rv v4 b' o cap w B l ts wh hB hp hr hw hbB x u0 u1 u2 u3 u4 u5 hu hqx _ (fun W hW => ihx (lv + 1) W B cv rv _ _ _ _ _ _ _ (Nat.le_trans hB hW.size) (hp.at hB hW) (hr.at hB hW) (hqx.at hB hW) (gx (by decide))) y z0 z1 z2 z3 z4 z5 hz hqy _ (fun W hW => ihy (lv + 1) W B cv rv _ _ _ _ _ _ _ (Nat.le_trans hB hW.size) (hp.at hB hW) (hr.at hB hW) (hqy.at hB hW) (gy (by decide))) bx by' (by omega) (by omega)
      · cases hrec
    · have hn2 : n = 1 := by simp [kidN] at hkn; omega
      subst hn2
      obtain ⟨b', o, rfl, hbB, ⟨u0, u1, u2, u3, u4, u5, hu, hqx⟩, _⟩ := hk (by decide) (by decide)
      obtain ⟨lx, bx, ox⟩ := fx (by decide) hqx.ne
      have h1 := ox.2.1
      simp only at h1
      simp [rec] at hrec
      split at hrec
      · rename_i hwr
        simp only [wrtB, decide_eq_true_eq] at hwr
        rw [ans_6]
        exact ran6_any c lo hi cv rv v4 b' o cap w B l ts wh hB hp hr hw hbB x u0 u1 u2 u3 u4 u5 hu hqx _ (fun W hW => ihx (lv + 1) W B cv rv _ _ _ _ _ _ _ (Nat.le_trans hB hW.size) (hp.at hB hW) (hr.at hB hW) (hqx.at hB hW) (gx (by decide))) bx ⟨hwr.1, hwr.2.2⟩ (by omega)
      · cases hrec
    · have hn2 : n = 2 := by simp [kidN] at hkn; omega
      subst hn2
      obtain ⟨b', o, rfl, hbB, ⟨u0, u1, u2, u3, u4, u5, hu, hqx⟩, hyy⟩ := hk (by decide) (by decide)
      obtain ⟨z0, z1, z2, z3, z4, z5, hz, hqy⟩ := hyy (by decide)
      obtain ⟨lx, bx, ox⟩ := fx (by decide) hqx.ne
      obtain ⟨ly, by', oy⟩ := fy (by decide) hqy.ne
      have h1 := ox.2.1
      have h2 := oy.2.1
      have h3 := qm_one hs x _ _ _ _ _ _ _ _ hqx (gx (by decide))
      have h4 := qm_one hs y _ _ _ _ _ _ _ _ hqy (gy (by decide))
      simp only at h1 h2 h3 h4
      rw [ans_7]
      exact ran7_any c lo hi cv rv v4 b' o cap w B l ts wh hB hp hr hw hbB x u0 u1 u2 u3 u4 u5 hu hqx _ (fun W hW => ihx (lv + 1) W B cv rv _ _ _ _ _ _ _ (Nat.le_trans hB hW.size) (hp.at hB hW) (hr.at hB hW) (hqx.at hB hW) (gx (by decide))) y z0 z1 z2 z3 z4 z5 hz hqy _ (fun W hW => ihy (lv + 1) W B cv rv _ _ _ _ _ _ _ (Nat.le_trans hB hW.size) (hp.at hB hW) (hr.at hB hW) (hqy.at hB hW) (gy (by decide))) (by omega) (by omega) (by omega)
    · have hn2 : n = 1 := by simp [kidN] at hkn; omega
      subst hn2
      obtain ⟨b', o, rfl, hbB, ⟨u0, u1, u2, u3, u4, u5, hu, hqx⟩, _⟩ := hk (by decide) (by decide)
      obtain ⟨lx, bx, ox⟩ := fx (by decide) hqx.ne
      have h1 := ox.2.1
      simp only at h1
      rw [ans_8]
      exact ran8_any c lo hi cv rv v4 b' o cap w B l ts wh hB hp hr hw hbB x u0 u1 u2 u3 u4 u5 hu hqx _ (fun W hW => ihx (lv + 1) W B cv rv _ _ _ _ _ _ _ (Nat.le_trans hB hW.size) (hp.at hB hW) (hr.at hB hW) (hqx.at hB hW) (gx (by decide))) bx (by omega)
    · have hn2 : n = 1 := by simp [kidN] at hkn; omega
      subst hn2
      obtain ⟨b', o, rfl, hbB, ⟨u0, u1, u2, u3, u4, u5, hu, hqx⟩, _⟩ := hk (by decide) (by decide)
      obtain ⟨lx, bx, _⟩ := fx (by decide) hqx.ne
      simp [rec] at hrec
      split at hrec
      · rename_i hlo
        obtain ⟨z, hz⟩ := get_lt (l := ans l (rr ts) x) (i := lo.toNat) (by omega)
        rw [ans_9, List.getD, hz]
        exact ran9_any c lo hi cv rv v4 b' o cap w B l ts wh hB hp hr hw hbB x u0 u1 u2 u3 u4 u5 hu hqx _ (fun W hW => ihx (lv + 1) W B cv rv _ _ _ _ _ _ _ (Nat.le_trans hB hW.size) (hp.at hB hW) (hr.at hB hW) (hqx.at hB hW) (gx (by decide))) lo.toNat z (by omega) hz
      · cases hrec
    · have hn2 : n = 1 := by simp [kidN] at hkn; omega
      subst hn2
      obtain ⟨b', o, rfl, hbB, ⟨u0, u1, u2, u3, u4, u5, hu, hqx⟩, _⟩ := hk (by decide) (by decide)
      obtain ⟨lx, bx, ox⟩ := fx (by decide) hqx.ne
      have h1 := ox.2.1
      simp only at h1
      rw [ans_10]
      exact ran10_any c lo hi cv rv v4 b' o cap w B l ts wh hB hp hr hw hbB x u0 u1 u2 u3 u4 u5 hu hqx _ (fun W hW => ihx (lv + 1) W B cv rv _ _ _ _ _ _ _ (Nat.le_trans hB hW.size) (hp.at hB hW) (hr.at hB hW) (hqx.at hB hW) (gx (by decide))) (by omega)
end Go.Proofs.YtlndlpjadajelaaGreat.K
