import Derived.Test.YtfcbkcoagoncoaaQf36
/-
  GUESSES ARE RIGHT ON THE WHOLE: the mathematics of CrowdFair.
-/
namespace Go.Proofs.Ytfcbkcoagoncoaa.Crd
open Go.Proofs.Ytfcbkcoagoncoaa.Ds Go.Proofs.Ytfcbkcoagoncoaa

/-- what is guessed of a kind, times u - d -/
def FX (u d : Int) (k n j : Nat) (h : List Int) : Int := (u + k * d) * h.getD j 0 - n * d
/-- .. on the whole -/
def FS (u d : Int) (k n : Nat) (l : List Pt) (j : Nat) : Int := smL (fun p : Pt => p.2 * FX u d k n j p.1) l
theorem FS_snoc {u d : Int} {k n : Nat} {l : List Pt} {i : Nat} {p : Pt} (h : l[i]? = some p) (j : Nat) : FS u d k n (l.take (i + 1)) j = FS u d k n (l.take i) j + p.2 * FX u d k n j p.1 := by
  unfold FS
  rw [List.take_add_one, h, smL_append]
  simp [smL]
theorem FS_gro (u d : Int) (k n : Nat) (c : Int) (l : List Pt) (j : Nat) : FS u d k n (gro c l) j = c * FS u d k n l j := by
  unfold FS gro
  rw [smL_map, ← smL_mul]
  exact smL_congr fun p _ => by rw [Int.mul_assoc]
theorem gro_tot (c : Int) (l : List Pt) : tot (gro c l) = c * tot l := by
  induction l with
  | nil => simp [gro]
  | cons p l ih =>
    simp only [gro, List.map_cons] at *
    rw [tot_cons, tot_cons, ih, Int.mul_add]
theorem cancel_l {c x y : Int} (hc : 0 < c) (h : c * x = c * y) : x = y := Int.eq_of_mul_eq_mul_left (by omega) h
/-- what was told is what the ways say, in lowest terms -/
theorem made_gro {u d : Int} {k : Nat} {ts : List Int} (hP : Peo u d k ts) {l : List Pt} (h : makeT (expL u d k (natsT ts)) = (l, 0)) : ∃ c : Int, 0 < c ∧ gro c l = expL u d k (natsT ts) := by
  have hd := hP.d1
  have hdu := hP.du
  have hu : 1 ≤ u := by omega
  have hl := hP.len
  rw [exp_make hu hd hP.k7 (by rw [nats_len]; omega) hP.nats (by rw [nats_len]; exact hP.pow)] at h
  split at h
  · simp at h
  · simp only [Prod.mk.injEq, and_true] at h
    have hne : expL u d k (natsT ts) ≠ [] := by unfold expL; simp [cnts_ne]
    have hc0 := dv_pos (exp_pos hu hd k (natsT ts)) hne
    exact ⟨dv (expL u d k (natsT ts)), by omega, by rw [← h]; exact cut_gro⟩
theorem fair_main {u d : Int} {k : Nat} {ts : List Int} (hP : Peo u d k ts) {l : List Pt} (h : makeT (expL u d k (natsT ts)) = (l, 0)) {j : Nat} (hj : j ≤ k) : FS u d k ts.length l j = cntK (natsT ts) j * (u - d) * tot l := by
  obtain ⟨c, hc, hg⟩ := made_gro hP h
  refine cancel_l hc ?_
  rw [← FS_gro, hg]
  have h1 := guess_right u d k j hj (natsT ts) hP.nats
  have h2 := exp_tot u d k (natsT ts) hP.nats
  rw [← hg, gro_tot] at h2
  have h3 : FS u d k ts.length (expL u d k (natsT ts)) j = cntK (natsT ts) j * (u - d) * (c * tot l) := by
    rw [h2, ← h1]
    unfold FS expL FX
    rw [smL_map, nats_len]
  rw [h3, ← Int.mul_assoc, ← Int.mul_assoc, Int.mul_comm (cntK (natsT ts) j * (u - d)) c, Int.mul_assoc]
/-- what lies in what was told -/
theorem made_mem {u d : Int} {k : Nat} {ts : List Int} (hP : Peo u d k ts) {l : List Pt} (h : makeT (expL u d k (natsT ts)) = (l, 0)) : (∀ p ∈ l, p.1 ∈ cnts ts.length k ∧ 0 ≤ p.2) ∧ tot l ≤ 1073741824 ∧ l ≠ [] := by
  have hd := hP.d1
  have hdu := hP.du
  have hu : 1 ≤ u := by omega
  have hl := hP.len
  have hT := exp_tot u d k (natsT ts) hP.nats
  rw [nats_len] at hT
  have hne : expL u d k (natsT ts) ≠ [] := by unfold expL; simp [cnts_ne]
  rw [exp_make hu hd hP.k7 (by rw [nats_len]; omega) hP.nats (by rw [nats_len]; exact hP.pow)] at h
  split at h
  · simp at h
  · simp only [Prod.mk.injEq, and_true] at h
    refine ⟨fun p hp => ?_, ?_, ?_⟩
    · rw [← h] at hp
      obtain ⟨q, hq, rfl⟩ := List.mem_map.1 hp
      obtain ⟨x, hx, rfl⟩ := List.mem_map.1 hq
      have h1 := wgh_pos hu hd k (natsT ts) x hx
      rw [nats_len] at hx
      exact ⟨hx, Int.ediv_nonneg (by show 0 ≤ wgh u d k (natsT ts) x; omega) (by omega)⟩
    · rw [← h]
      have := cut_tot_le (exp_pos hu hd k (natsT ts))
      have := hP.pow
      omega
    · rw [← h]
      intro e
      have := congrArg List.length e
      rw [cut_length] at this
      exact hne (List.length_eq_zero_iff.1 this)
theorem peo_nil {u d : Int} {k : Nat} {ts : List Int} (hP : Peo u d k ts) : peoE u d ((k : Int) + 1) [] = 0 := by
  have hd := hP.d1
  have hdu := hP.du
  have hk := hP.k7
  obtain ⟨g, σ, _, _, _, hm⟩ := say_made (u := u) (d := d) (by omega) hd hk (t := 0) (by omega) hP.S
  have hr := hP.res (t := 0) (by omega) (by omega)
  unfold peoE
  rw [if_neg (by omega), if_neg (by simp), hr]
  have hm' : makeT (resL u d 0 (k + 1)) = (sayL σ k, 0) := hm
  rw [hm']
  simp [resE]
/-- what Guess tells of what may be heard -/
theorem guess_of {u d : Int} {k : Nat} {ts : List Int} (hP : Peo u d k ts) (hne : u ≠ d) {h : List Int} (hh : h ∈ cnts ts.length k) :
    ∃ (up : List Int) (q G : Int), gueT u d h = (up, q, 0) ∧ up.length = k + 1 ∧ 1 ≤ G ∧ G ≤ u - d ∧ 1 ≤ q ∧ q ≤ u - d ∧ q * G = u - d ∧ ∀ j, j ≤ k → up.getD j 0 * G = FX u d k ts.length j h := by
  have hdu := hP.du
  have hl := hP.len
  obtain ⟨hlen, hnn, htl⟩ := mem_cnts.1 hh
  have hp0 : peoE u d (h.length : Int) [] = 0 := by rw [hlen, show ((k + 1 : Nat) : Int) = (k : Int) + 1 by omega]; exact peo_nil hP
  have hb : h.any badN = false := by
    rw [List.any_eq_false]
    intro x hx
    have := cnt_le hh hx
    have := hnn x hx
    unfold badN
    simp; omega
  obtain ⟨ln, hln⟩ := Int.eq_ofNat_of_zero_le (show 0 ≤ u - d by omega)
  have hln1 : 1 ≤ ln := by omega
  obtain ⟨G, hG⟩ : ∃ G, gdL ln (xsT u d h) = G := ⟨_, rfl⟩
  have hG1 : 1 ≤ G := by rw [← hG]; exact gdL_pos _ hln1
  have hG2 : G ≤ ln := by rw [← hG]; exact gdL_le _ hln1
  obtain ⟨dv1, dv2⟩ := gdL_dvd (xsT u d h) ln
  rw [hG] at dv1 dv2
  have hqG : (ln : Int) / (G : Int) * (G : Int) = (ln : Int) := Int.ediv_mul_cancel (Int.ofNat_dvd.2 dv1)
  have hq1 : 1 ≤ (ln : Int) / (G : Int) := by
    have : 1 ≤ ln / G := Nat.div_pos hG2 (by omega)
    have e : ((ln / G : Nat) : Int) = (ln : Int) / (G : Int) := Int.natCast_ediv _ _
    omega
  have hq2 : (ln : Int) / (G : Int) ≤ ln := Int.ediv_le_self _ (by omega)
  refine ⟨(xsT u d h).map fun x => x / (G : Int), (ln : Int) / (G : Int), G, ?_, by simp [xsT_len, hlen], by omega, by omega, hq1, by omega, by omega, ?_⟩
  · unfold gueT
    rw [if_neg (by simpa using hp0), if_neg hne, hb, hln, Int.toNat_natCast, hG]
    simp
  · intro j hj
    have hjl : j < h.length := by omega
    obtain ⟨x, hx⟩ := get_lt hjl
    have e1 : (xsT u d h)[j]? = some (FX u d k ts.length j h) := by
      unfold xsT FX
      simp only [List.getElem?_map, hx, Option.map_some]
      rw [hlen, htl, show ((k + 1 : Nat) : Int) - 1 = k by omega]
      simp [List.getD, hx]
    have e2 : ((xsT u d h).map fun x => x / (G : Int)).getD j 0 = FX u d k ts.length j h / (G : Int) := by
      simp [List.getD, e1]
    rw [e2]
    exact Int.ediv_mul_cancel (Int.ofNat_dvd_left.2 (dv2 _ (List.mem_of_getElem? e1)))
/-- how large what is guessed may be -/
theorem FX_bd {u d : Int} {k n j : Nat} {h : List Int} (hd0 : 0 ≤ d) (hdu : d ≤ u) (hu : u ≤ 1000) (hk : k ≤ 7) (hn : n ≤ 12) (hh : h ∈ cnts n k) (hj : j ≤ k) : -108000 ≤ FX u d k n j h ∧ FX u d k n j h ≤ 108000 := by
  obtain ⟨hlen, hnn, htl⟩ := mem_cnts.1 hh
  have hm : h.getD j 0 ∈ h := getD_mem (by omega)
  have x0 := hnn _ hm
  have x1 := cnt_le hh hm
  have kd : 0 ≤ (k : Int) * d := Int.mul_nonneg (by omega) hd0
  have kd2 : (k : Int) * d ≤ 7 * 1000 := Int.mul_le_mul (by omega) (by omega) hd0 (by omega)
  have a1 : 0 ≤ (u + k * d) * h.getD j 0 := Int.mul_nonneg (by omega) x0
  have a2 : (u + k * d) * h.getD j 0 ≤ 8000 * 12 := Int.mul_le_mul (by omega) (by omega) x0 (by omega)
  have a3 : 0 ≤ (n : Int) * d := Int.mul_nonneg (by omega) hd0
  have a4 : (n : Int) * d ≤ 12 * 1000 := Int.mul_le_mul (by omega) (by omega) hd0 (by omega)
  unfold FX
  omega
theorem FS_bd {u d : Int} {k n j : Nat} (hd0 : 0 ≤ d) (hdu : d ≤ u) (hu : u ≤ 1000) (hk : k ≤ 7) (hn : n ≤ 12) (hj : j ≤ k) : ∀ (l : List Pt), (∀ p ∈ l, p.1 ∈ cnts n k ∧ 0 ≤ p.2) → -(tot l * 108000) ≤ FS u d k n l j ∧ FS u d k n l j ≤ tot l * 108000 ∧ 0 ≤ tot l
  | [], _ => by simp [FS, smL]
  | p :: l, h => by
    obtain ⟨i1, i2, i3⟩ := FS_bd hd0 hdu hu hk hn hj l fun q hq => h q (by simp [hq])
    obtain ⟨hp, hp0⟩ := h p (by simp)
    obtain ⟨f1, f2⟩ := FX_bd hd0 hdu hu hk hn hp hj
    have e : FS u d k n (p :: l) j = p.2 * FX u d k n j p.1 + FS u d k n l j := rfl
    rw [e, tot_cons, Int.add_mul]
    have m1 : p.2 * FX u d k n j p.1 ≤ p.2 * 108000 := Int.mul_le_mul_of_nonneg_left f2 hp0
    have m2 : p.2 * (-108000) ≤ p.2 * FX u d k n j p.1 := Int.mul_le_mul_of_nonneg_left f1 hp0
    rw [Int.mul_neg] at m2
    omega
theorem tot_take {l : List Pt} (h : ∀ p ∈ l, 0 ≤ p.2) (i : Nat) : tot (l.take i) ≤ tot l := by
  induction l generalizing i with
  | nil => simp
  | cons p l ih =>
    cases i with
    | zero =>
      have h1 : 0 ≤ tot l := by
        have := ih (fun q hq => h q (by simp [hq])) 0
        simpa using this
      have := h p (by simp)
      simp [tot_cons]; omega
    | succ i =>
      have := ih (fun q hq => h q (by simp [hq])) i
      simp only [List.take_succ_cons, tot_cons]; omega
end Go.Proofs.Ytfcbkcoagoncoaa.Crd
