import Derived.Test.YtgfndaiilhbkmaaMath
namespace Go.Proofs.Ytgfndaiilhbkmaa.Ds

/-! ### nodes and levels -/
/-- how many nodes levels 0 to h have -/
def nds (w : Nat) : Nat → Nat
  | 0 => 1
  | h + 1 => w * nds w h + 1
theorem nds_pow (w : Nat) : ∀ h, nds w (h + 1) = nds w h + w ^ (h + 1)
  | 0 => by simp [nds]; omega
  | h + 1 => by
    have ih := nds_pow w h
    have e1 : nds w (h + 1 + 1) = w * nds w (h + 1) + 1 := rfl
    have e2 : nds w (h + 1) = w * nds w h + 1 := rfl
    have e3 : w * nds w (h + 1) = w * nds w h + w ^ (h + 1 + 1) := by rw [ih, Nat.mul_add, Nat.pow_succ w (h + 1), Nat.mul_comm w (w ^ (h + 1))]
    omega
theorem nds_pos (w h : Nat) : 1 ≤ nds w h := by cases h <;> simp [nds]
theorem pow_le_nds (w : Nat) : ∀ h, w ^ h ≤ nds w h
  | 0 => by simp [nds]
  | h + 1 => by rw [nds_pow]; omega
theorem nds_mono (w : Nat) {a b : Nat} (h : a ≤ b) : nds w a ≤ nds w b := by
  induction b with
  | zero => obtain rfl : a = 0 := by omega
            exact Nat.le_refl _
  | succ b ih =>
    by_cases e : a = b + 1
    · subst e; exact Nat.le_refl _
    · have := ih (by omega)
      rw [nds_pow]; omega
/-- how many of them have others below them -/
def inr (w h : Nat) : Nat := nds w h - w ^ h
theorem inr_zero (w : Nat) : inr w 0 = 0 := by simp [inr, nds]
theorem inr_succ (w h : Nat) : inr w (h + 1) = nds w h := by rw [inr, nds_pow]; omega
theorem inr_add (w h : Nat) : inr w h + w ^ h = nds w h := by have := pow_le_nds w h; unfold inr; omega
theorem inr_lt (w h : Nat) (hw : 0 < w) : inr w h < nds w h := by
  have := inr_add w h
  have : 0 < w ^ h := Nat.pow_pos hw
  omega
/-- the level of a node -/
def lev (w : Nat) : Nat → Nat
  | 0 => 0
  | i + 1 => lev w (i / w) + 1
decreasing_by exact Nat.lt_succ_of_le (Nat.div_le_self i w)
theorem lev_zero (w : Nat) : lev w 0 = 0 := by rw [lev]
theorem lev_succ (w i : Nat) : lev w (i + 1) = lev w (i / w) + 1 := by rw [lev]
theorem lev_le {w : Nat} (hw : 0 < w) : ∀ (l i : Nat), lev w i ≤ l ↔ i < nds w l
  | l, 0 => by rw [lev_zero]; simp; exact nds_pos w l
  | 0, i + 1 => by rw [lev_succ]; simp [nds]
  | l + 1, i + 1 => by
    rw [lev_succ, nds, Nat.succ_le_succ_iff, lev_le hw l (i / w), Nat.div_lt_iff_lt_mul hw, Nat.mul_comm]
    omega
theorem lev_lt {w : Nat} (hw : 0 < w) (h i : Nat) : lev w i < h ↔ i < inr w h := by
  cases h with
  | zero => simp [inr_zero]
  | succ h => rw [inr_succ, ← lev_le hw]; omega
theorem kid_par {w i k : Nat} (hk : k < w) : (w * i + k) / w = i := by
  rw [Nat.mul_add_div (by omega), Nat.div_eq_of_lt hk, Nat.add_zero]
theorem lev_kid {w i k : Nat} (hk : k < w) : lev w (w * i + 1 + k) = lev w i + 1 := by
  rw [show w * i + 1 + k = w * i + k + 1 by omega, lev_succ, kid_par hk]
theorem kid_lt {w H i k : Nat} (hw : 0 < w) (hi : i < inr w H) (hk : k < w) : w * i + 1 + k < nds w H := by
  rw [← lev_le hw, lev_kid hk]
  exact (lev_lt hw H i).2 hi
theorem leaf_lev {w H i : Nat} (hw : 0 < w) (hi : i < nds w H) (hl : ¬ i < inr w H) : lev w i = H := by
  have h1 := (lev_le hw H i).2 hi
  have h2 := mt (lev_lt hw H i).1 hl
  omega

/-! ### sums of some -/
def sumN (f : Nat → Int) (s : Nat) : Nat → Int
  | 0 => 0
  | k + 1 => sumN f s k + f (s + k)
theorem sumN_congr {f g : Nat → Int} {s : Nat} : ∀ {n : Nat}, (∀ k, k < n → f (s + k) = g (s + k)) → sumN f s n = sumN g s n
  | 0, _ => rfl
  | n + 1, h => by rw [sumN, sumN, sumN_congr (n := n) fun k hk => h k (by omega), h n (by omega)]
theorem sumN_abs {f : Nat → Int} {s B : Nat} : ∀ {n : Nat}, (∀ k, k < n → (f (s + k)).natAbs ≤ B) → (sumN f s n).natAbs ≤ n * B
  | 0, _ => by simp [sumN]
  | n + 1, h => by
    have h1 := sumN_abs (n := n) fun k hk => h k (by omega)
    have h2 := h n (by omega)
    rw [sumN, Nat.succ_mul]
    omega
theorem sumN_dvd {f : Nat → Int} {s : Nat} {d : Int} : ∀ {n : Nat}, (∀ k, k < n → d ∣ f (s + k)) → d ∣ sumN f s n
  | 0, _ => ⟨0, by simp [sumN]⟩
  | n + 1, h => Int.dvd_add (sumN_dvd (n := n) fun k hk => h k (by omega)) (h n (by omega))
theorem sumN_mul (f : Nat → Int) (s : Nat) (d : Int) : ∀ n, sumN (fun i => f i * d) s n = sumN f s n * d
  | 0 => by simp [sumN]
  | n + 1 => by rw [sumN, sumN, sumN_mul f s d n, Int.add_mul]
theorem sumN_plus (f : Nat → Int) (s : Nat) (d : Int) : ∀ n, sumN (fun i => f i + d) s n = sumN f s n + n * d
  | 0 => by simp [sumN]
  | n + 1 => by rw [sumN, sumN, sumN_plus f s d n, Int.natCast_add, Int.add_mul]; simp only [Int.natCast_one, Int.one_mul]; omega
theorem sumN_const (s : Nat) (d : Int) (n : Nat) : sumN (fun _ => d) s n = n * d := by
  induction n with
  | zero => simp [sumN]
  | succ n ih => rw [sumN, ih, Int.natCast_add, Int.add_mul]; simp

/-! ### from the lowest level up -/
def ris (mk : Nat → Int → Int) (b : Nat → Int) (w : Nat) : Nat → Nat → Int
  | 0, i => b i
  | h + 1, i => mk i (sumN (ris mk b w h) (w * i + 1) w)
def risF (mk : Nat → Int → Int) (b : Nat → Int) (w H i : Nat) : Int := ris mk b w (H - lev w i) i
theorem risF_leaf {mk : Nat → Int → Int} {b : Nat → Int} {w H i : Nat} (hw : 0 < w) (hi : i < nds w H) (hl : ¬ i < inr w H) : risF mk b w H i = b i := by
  rw [risF, leaf_lev hw hi hl, Nat.sub_self, ris]
theorem risF_inner (mk : Nat → Int → Int) (b : Nat → Int) {w H i : Nat} (hw : 0 < w) (hl : i < inr w H) : risF mk b w H i = mk i (sumN (risF mk b w H) (w * i + 1) w) := by
  have h1 := (lev_lt hw H i).2 hl
  obtain ⟨k, hk⟩ : ∃ k, H - lev w i = k + 1 := ⟨H - lev w i - 1, by omega⟩
  rw [risF, hk, ris]
  refine congrArg (mk i) (sumN_congr fun j hj => ?_)
  rw [risF, lev_kid hj, show H - (lev w i + 1) = k by omega]
/-- what holds of all that comes from below, by heights -/
theorem risF_ind {P : Nat → Nat → Int → Prop} {mk : Nat → Int → Int} {b : Nat → Int} {w H : Nat} (hw : 0 < w)
    (h0 : ∀ i, i < nds w H → lev w i = H → P 0 i (b i))
    (hs : ∀ h i, lev w i + (h + 1) = H → i < inr w H → (∀ k, k < w → P h (w * i + 1 + k) (risF mk b w H (w * i + 1 + k))) → P (h + 1) i (mk i (sumN (risF mk b w H) (w * i + 1) w))) :
    ∀ h i, lev w i + h = H → P h i (risF mk b w H i) := by
  intro h
  induction h with
  | zero =>
    intro i hi
    have h1 : i < nds w H := (lev_le hw H i).1 (by omega)
    have h2 : ¬ i < inr w H := by rw [← lev_lt hw]; omega
    rw [risF_leaf hw h1 h2]
    exact h0 i h1 (by omega)
  | succ h ih =>
    intro i hi
    have h2 : i < inr w H := by rw [← lev_lt hw]; omega
    rw [risF_inner mk b hw h2]
    exact hs h i hi h2 fun k hk => ih _ (by rw [lev_kid hk]; omega)
/-- the numbers while they are made, from the last one on -/
def stt (f b : Nat → Int) (m j : Nat) : Int := if m ≤ j then f j else b j
theorem stt_end (f b : Nat → Int) (j : Nat) : stt f b 0 j = f j := by simp [stt]

/-! ### how many of the lowest level are below -/
theorem leaves_eq {w H : Nat} (hw : 0 < w) {i : Nat} (hi : i < nds w H) : risF (fun _ s => s) (fun _ => 1) w H i = ((w ^ (H - lev w i) : Nat) : Int) := by
  have h := risF_ind (P := fun h _ x => x = ((w ^ h : Nat) : Int)) (mk := fun _ s => s) (b := fun _ => 1) (w := w) (H := H) hw (fun _ _ _ => by simp) (fun h i _ _ hk => by
    rw [sumN_congr (g := fun _ => ((w ^ h : Nat) : Int)) fun k hk2 => hk k hk2, sumN_const, Nat.pow_succ, Nat.mul_comm, Int.natCast_mul])
  have h1 := (lev_le hw H i).2 hi
  exact h (H - lev w i) i (by omega)

/-! ### the line -/
def prd (w : Nat) : Nat → Nat
  | 0 => 1
  | k + 1 => prd w k * (w ^ (k + 2) - 1)
def lin (w H : Nat) : Nat := w ^ H * prd w H
theorem pow_big {w : Nat} (hw : 2 ≤ w) (k : Nat) : 4 ≤ w ^ (k + 2) := by
  have h1 : w ^ 2 ≤ w ^ (k + 2) := Nat.pow_le_pow_right (by omega) (by omega)
  have h2 : 2 ^ 2 ≤ w ^ 2 := Nat.pow_le_pow_left hw 2
  omega
theorem prd_pos {w : Nat} (hw : 2 ≤ w) : ∀ k, 1 ≤ prd w k
  | 0 => by simp [prd]
  | k + 1 => by
    have h1 := prd_pos hw k
    have h2 := pow_big hw k
    rw [prd]
    exact Nat.mul_pos h1 (by omega)
theorem prd_mono {w : Nat} (hw : 2 ≤ w) {a b : Nat} (h : a ≤ b) : prd w a ≤ prd w b := by
  induction b with
  | zero => obtain rfl : a = 0 := by omega
            exact Nat.le_refl _
  | succ b ih =>
    by_cases e : a = b + 1
    · subst e; exact Nat.le_refl _
    · have h1 := ih (by omega)
      have h2 := pow_big hw b
      rw [prd]
      exact Nat.le_trans h1 (Nat.le_mul_of_pos_right _ (by omega))
theorem lin_pos {w : Nat} (hw : 2 ≤ w) (H : Nat) : 1 ≤ lin w H := Nat.mul_pos (Nat.pow_pos (by omega)) (prd_pos hw H)
/-- what is left of the line at a height -/
def tl (w : Nat) : Nat → Nat → Nat
  | _, 0 => 1
  | h, k + 1 => (w ^ (h + 2) - 1) * tl w (h + 1) k
theorem prd_tl (w : Nat) : ∀ k h, prd w h * tl w h k = prd w (h + k)
  | 0, h => by simp [tl]
  | k + 1, h => by
    have h1 := prd_tl w k (h + 1)
    rw [prd] at h1
    rw [tl, ← Nat.mul_assoc, h1]
    congr 1; omega
def lef (w H h : Nat) : Nat := w ^ H * tl w h (H - h)
theorem lef_zero (w H : Nat) : lef w H 0 = lin w H := by
  have := prd_tl w H 0
  simp [prd] at this
  rw [lef, lin, Nat.sub_zero, this]
theorem lef_step {w H h : Nat} (hh : h < H) : lef w H h = (w ^ (h + 2) - 1) * lef w H (h + 1) := by
  obtain ⟨k, hk⟩ : ∃ k, H - h = k + 1 := ⟨H - h - 1, by omega⟩
  rw [lef, hk, tl, lef, show H - (h + 1) = k by omega]
  rw [← Nat.mul_assoc, ← Nat.mul_assoc, Nat.mul_comm (w ^ H)]
theorem lef_end (w H : Nat) : lef w H H = w ^ H := by rw [lef, Nat.sub_self, tl, Nat.mul_one]
theorem lef_lin {w H : Nat} : ∀ {h : Nat}, h ≤ H → lef w H h ∣ lin w H
  | 0, _ => by rw [lef_zero]; exact Nat.dvd_refl _
  | h + 1, hh => Nat.dvd_trans ⟨w ^ (h + 2) - 1, by rw [lef_step (by omega), Nat.mul_comm]⟩ (lef_lin (h := h) (by omega))

/-! ### LIFTs -/
/-- what a node is made of what was told of it (over the line) and of those below it; q: how many of the lowest level are below it -/
def mkq (w q : Nat) (x s : Int) : Int := (((q * w : Nat) : Int) - (q : Int)) * x.tdiv (((q * w : Nat) : Int) - 1) + ((q : Int) - 1) * s.tdiv (((q * w : Nat) : Int) - 1)
def mkL (w H : Nat) (t : Nat → Int) (i : Nat) (s : Int) : Int := mkq w (w ^ (H - lev w i)) (t i) s
/-- LIFTs of what was told over the line -/
def lft (w H : Nat) (t : Nat → Int) : Nat → Int := risF (mkL w H t) t w H
theorem tdiv_abs_le {a d : Nat} (had : a ≤ d) (x : Int) : ((a : Int) * x.tdiv (d : Int)).natAbs ≤ x.natAbs := by
  rw [Int.natAbs_mul, Int.natAbs_tdiv, Int.natAbs_natCast, Int.natAbs_natCast]
  exact Nat.le_trans (Nat.mul_le_mul_right _ had) (Nat.mul_div_le _ _)
theorem mkq_abs {w q B h : Nat} {x s : Int} (hw : 2 ≤ w) (hq : 1 ≤ q) (hx : x.natAbs ≤ B) (hs : s.natAbs ≤ w * (h * B)) : (mkq w q x s).natAbs ≤ (h + 1) * B ∧
    ((((q * w : Nat) : Int) - (q : Int)) * x.tdiv (((q * w : Nat) : Int) - 1)).natAbs ≤ B ∧ (((q : Int) - 1) * s.tdiv (((q * w : Nat) : Int) - 1)).natAbs ≤ h * B := by
  have hqw : q * 2 ≤ q * w := Nat.mul_le_mul_left _ hw
  obtain ⟨m, hm⟩ : ∃ m, q * w = m := ⟨_, rfl⟩
  have e1 : ((m : Int) - (q : Int)) = ((m - q : Nat) : Int) := by omega
  have e2 : ((m : Int) - 1) = ((m - 1 : Nat) : Int) := by omega
  have e3 : ((q : Int) - 1) = ((q - 1 : Nat) : Int) := by omega
  have h1 : ((((q * w : Nat) : Int) - (q : Int)) * x.tdiv (((q * w : Nat) : Int) - 1)).natAbs ≤ B := by
    rw [hm, e1, e2]
    exact Nat.le_trans (tdiv_abs_le (by omega) x) hx
  have h2 : (((q : Int) - 1) * s.tdiv (((q * w : Nat) : Int) - 1)).natAbs ≤ h * B := by
    rw [hm, e2, e3, Int.natAbs_mul, Int.natAbs_tdiv, Int.natAbs_natCast, Int.natAbs_natCast]
    have h3 : (q - 1) * (s.natAbs / (m - 1)) ≤ (q - 1) * s.natAbs / (m - 1) := Nat.mul_div_le_mul_div_assoc _ _ _
    have h4 : (q - 1) * s.natAbs ≤ (m - 1) * (h * B) := by
      have h5 : (q - 1) * s.natAbs ≤ (q - 1) * (w * (h * B)) := Nat.mul_le_mul_left _ hs
      have h6 : (q - 1) * w ≤ m - 1 := by rw [Nat.sub_mul, hm]; omega
      have h7 : (q - 1) * w * (h * B) ≤ (m - 1) * (h * B) := Nat.mul_le_mul_right _ h6
      rw [Nat.mul_assoc] at h7
      omega
    have h8 : (q - 1) * s.natAbs / (m - 1) ≤ h * B := by
      have : (q - 1) * s.natAbs / (m - 1) ≤ (m - 1) * (h * B) / (m - 1) := Nat.div_le_div_right h4
      rwa [Nat.mul_div_cancel_left _ (by omega)] at this
    exact Nat.le_trans h3 h8
  refine ⟨?_, h1, h2⟩
  unfold mkq
  rw [Nat.add_mul, Nat.one_mul]
  omega
theorem lft_abs {w H B : Nat} {t : Nat → Int} (hw : 2 ≤ w) (ht : ∀ i, i < nds w H → (t i).natAbs ≤ B) : ∀ h i, lev w i + h = H → (lft w H t i).natAbs ≤ (h + 1) * B :=
  risF_ind (P := fun h _ x => x.natAbs ≤ (h + 1) * B) (by omega) (fun i hi _ => by simpa using ht i hi) (fun h i hl hi hk => by
    have h1 : (sumN (risF (mkL w H t) t w H) (w * i + 1) w).natAbs ≤ w * ((h + 1) * B) := sumN_abs fun k hk2 => hk k hk2
    exact (mkq_abs hw (Nat.pow_pos (by omega)) (ht i ((lev_le (by omega) H i).1 (by omega))) h1).1)
/-- of all nodes -/
theorem lft_le {w H B : Nat} {t : Nat → Int} (hw : 2 ≤ w) (hH : H ≤ 10) (ht : ∀ i, i < nds w H → (t i).natAbs ≤ B) {i : Nat} (hi : i < nds w H) : (lft w H t i).natAbs ≤ 11 * B := by
  have h1 := (lev_le (w := w) (by omega) H i).2 hi
  have h2 := lft_abs hw ht (H - lev w i) i (by omega)
  exact Nat.le_trans h2 (Nat.mul_le_mul_right _ (by omega))
theorem dvd_mkq {w q : Nat} {x s e : Int} (hw : 2 ≤ w) (hq : 1 ≤ q) (hx : (((q * w : Nat) : Int) - 1) * e ∣ x) (hs : (((q * w : Nat) : Int) - 1) * e ∣ s) : e ∣ mkq w q x s := by
  have hqw : q * 2 ≤ q * w := Nat.mul_le_mul_left _ hw
  obtain ⟨a, rfl⟩ := hx
  obtain ⟨b, rfl⟩ := hs
  have hne : (((q * w : Nat) : Int) - 1) ≠ 0 := by omega
  unfold mkq
  rw [Int.mul_assoc, Int.mul_assoc, Int.mul_tdiv_cancel_left _ hne, Int.mul_tdiv_cancel_left _ hne]
  exact Int.dvd_add (Int.dvd_mul_of_dvd_right ⟨a, rfl⟩) (Int.dvd_mul_of_dvd_right ⟨b, rfl⟩)
theorem qw_eq (w h : Nat) : w ^ (h + 1) * w = w ^ (h + 2) := by rw [Nat.pow_succ w (h + 1)]
theorem lft_dvd {w H : Nat} {t : Nat → Int} (hw : 2 ≤ w) (ht : ∀ i, i < nds w H → ((lin w H : Nat) : Int) ∣ t i) : ∀ h i, lev w i + h = H → ((lef w H h : Nat) : Int) ∣ lft w H t i :=
  risF_ind (P := fun h _ x => ((lef w H h : Nat) : Int) ∣ x) (by omega) (fun i hi _ => by rw [lef_zero]; exact ht i hi) (fun h i hl hi hk => by
    have h1 : ((lef w H h : Nat) : Int) ∣ sumN (risF (mkL w H t) t w H) (w * i + 1) w := sumN_dvd fun k hk2 => hk k hk2
    have e1 : H - lev w i = h + 1 := by omega
    have h4 := pow_big hw h
    have e2 : ((lef w H h : Nat) : Int) = (((w ^ (h + 1) * w : Nat) : Int) - 1) * ((lef w H (h + 1) : Nat) : Int) := by
      rw [lef_step (by omega), qw_eq, Int.natCast_mul]
      congr 1
      omega
    show _ ∣ mkq w (w ^ (H - lev w i)) (t i) _
    rw [e1]
    refine dvd_mkq hw (Nat.pow_pos (by omega)) ?_ ?_
    · rw [← e2]
      exact Int.dvd_trans (Int.natCast_dvd_natCast.2 (lef_lin (by omega))) (ht i ((lev_le (by omega) H i).1 (by omega)))
    · rw [← e2]; exact h1)
/-- what already adds up stays -/
theorem lft_stay {w H : Nat} {t : Nat → Int} (hw : 2 ≤ w) (ht : ∀ i, i < nds w H → ((lin w H : Nat) : Int) ∣ t i) (ha : ∀ i, i < inr w H → sumN t (w * i + 1) w = t i) : ∀ h i, lev w i + h = H → lft w H t i = t i :=
  risF_ind (P := fun _ i x => x = t i) (by omega) (fun _ _ _ => rfl) (fun h i hl hi hk => by
    have h1 : sumN (risF (mkL w H t) t w H) (w * i + 1) w = t i := by rw [← ha i hi]; exact sumN_congr fun k hk2 => hk k hk2
    rw [h1]
    have e1 : H - lev w i = h + 1 := by omega
    have h4 := pow_big hw h
    have e2 : ((lef w H h : Nat) : Int) = (((w ^ (h + 1) * w : Nat) : Int) - 1) * ((lef w H (h + 1) : Nat) : Int) := by
      rw [lef_step (by omega), qw_eq, Int.natCast_mul]
      congr 1
      omega
    have h5 : (((w ^ (h + 1) * w : Nat) : Int) - 1) ∣ t i :=
      Int.dvd_trans ⟨_, e2⟩ (Int.dvd_trans (Int.natCast_dvd_natCast.2 (lef_lin (by omega))) (ht i ((lev_le (by omega) H i).1 (by omega))))
    show mkq w (w ^ (H - lev w i)) (t i) (t i) = t i
    rw [e1]
    obtain ⟨a, h6⟩ := h5
    unfold mkq
    have h7 := qw_eq w h
    have hne : (((w ^ (h + 1) * w : Nat) : Int) - 1) ≠ 0 := by omega
    rw [h6, Int.mul_tdiv_cancel_left _ hne, ← Int.add_mul]
    congr 1
    omega)

/-! ### from the top down -/
def stl (w : Nat) (L : Nat → Int) : Nat → Int
  | 0 => L 0
  | i + 1 => L (i + 1) + (stl w L (i / w) - sumN L (w * (i / w) + 1) w).tdiv (w : Int)
decreasing_by exact Nat.lt_succ_of_le (Nat.div_le_self i w)
theorem stl_zero (w : Nat) (L : Nat → Int) : stl w L 0 = L 0 := by rw [stl]
theorem stl_succ (w : Nat) (L : Nat → Int) (i : Nat) : stl w L (i + 1) = L (i + 1) + (stl w L (i / w) - sumN L (w * (i / w) + 1) w).tdiv (w : Int) := by rw [stl]
theorem stl_kid {w : Nat} {L : Nat → Int} {i k : Nat} (hk : k < w) : stl w L (w * i + 1 + k) = L (w * i + 1 + k) + (stl w L i - sumN L (w * i + 1) w).tdiv (w : Int) := by
  rw [show w * i + 1 + k = w * i + k + 1 by omega, stl_succ, kid_par hk]
/-- the node above a node that is not the top has others below it -/
theorem par_inr {w H i : Nat} (hw : 0 < w) (hi : i + 1 < nds w H) : i / w < inr w H := by
  have h1 := (lev_le hw H (i + 1)).2 hi
  rw [lev_succ] at h1
  exact (lev_lt hw H _).1 (by omega)
theorem stl_abs {w H B : Nat} {L : Nat → Int} (hw : 2 ≤ w) (hL : ∀ i, i < nds w H → (L i).natAbs ≤ B) : ∀ i, i < nds w H → (stl w L i).natAbs ≤ 4 * B ∧ (i < inr w H → (sumN L (w * i + 1) w).natAbs ≤ w * B)
  | 0, hi => by
    refine ⟨by rw [stl_zero]; have := hL 0 hi; omega, fun h0 => sumN_abs fun k hk => hL _ (kid_lt (by omega) h0 hk)⟩
  | i + 1, hi => by
    have hp := par_inr (by omega) hi
    have hs := fun (j : Nat) (hj : j < inr w H) => sumN_abs (f := L) (s := w * j + 1) (B := B) (n := w) fun k hk => hL _ (kid_lt (by omega) hj hk)
    have ih := stl_abs hw hL (i / w) (by have := inr_lt w H (by omega); omega)
    refine ⟨?_, hs _⟩
    have h1 := hs _ hp
    have h2 := hL _ hi
    rw [stl_succ]
    obtain ⟨S, hS⟩ : ∃ S, sumN L (w * (i / w) + 1) w = S := ⟨_, rfl⟩
    obtain ⟨O, hO⟩ : ∃ O, stl w L (i / w) = O := ⟨_, rfl⟩
    rw [hS] at h1 ⊢
    rw [hO] at ih ⊢
    have h3 : ((O - S).tdiv (w : Int)).natAbs ≤ 3 * B := by
      rw [Int.natAbs_tdiv, Int.natAbs_natCast]
      have h4 : (O - S).natAbs ≤ w * (3 * B) := by
        have h5 : (O - S).natAbs ≤ 4 * B + w * B := by omega
        have h6 : w * (3 * B) = w * B + w * (2 * B) := by rw [← Nat.mul_add]; congr 1; omega
        have h7 : 2 * (2 * B) ≤ w * (2 * B) := Nat.mul_le_mul_right _ hw
        omega
      have h8 : (O - S).natAbs / w ≤ w * (3 * B) / w := Nat.div_le_div_right h4
      rwa [Nat.mul_div_cancel_left _ (by omega)] at h8
    omega
decreasing_by exact Nat.lt_succ_of_le (Nat.div_le_self i w)
theorem stl_dvd {w H : Nat} {L : Nat → Int} (hw : 2 ≤ w) (hL : ∀ i, i < nds w H → ((w ^ H : Nat) : Int) ∣ L i) : ∀ i, i < nds w H → ((w ^ (H - lev w i) : Nat) : Int) ∣ stl w L i
  | 0, hi => by rw [stl_zero, lev_zero]; exact hL 0 hi
  | i + 1, hi => by
    have hp := par_inr (by omega) hi
    have hlv := (lev_lt (w := w) (by omega) H _).2 hp
    have ih := stl_dvd hw hL (i / w) (by have := inr_lt w H (by omega); omega)
    obtain ⟨k, hk⟩ : ∃ k, H - lev w (i / w) = k + 1 := ⟨H - lev w (i / w) - 1, by omega⟩
    rw [stl_succ, lev_succ, show H - (lev w (i / w) + 1) = k by omega]
    rw [hk] at ih
    have hs : ((w ^ H : Nat) : Int) ∣ sumN L (w * (i / w) + 1) w := sumN_dvd fun j hj => hL _ (kid_lt (by omega) hp hj)
    have hpw : ((w ^ (k + 1) : Nat) : Int) ∣ ((w ^ H : Nat) : Int) := Int.natCast_dvd_natCast.2 (Nat.pow_dvd_pow w (by omega))
    have hpk : ((w ^ k : Nat) : Int) ∣ ((w ^ H : Nat) : Int) := Int.natCast_dvd_natCast.2 (Nat.pow_dvd_pow w (by omega))
    refine Int.dvd_add (Int.dvd_trans hpk (hL _ hi)) ?_
    obtain ⟨a, ha⟩ := Int.dvd_sub ih (Int.dvd_trans hpw hs)
    rw [ha, Nat.pow_succ, Int.natCast_mul, Int.mul_comm ((w ^ k : Nat) : Int), Int.mul_assoc, Int.mul_tdiv_cancel_left _ (by omega)]
    exact ⟨a, rfl⟩
decreasing_by exact Nat.lt_succ_of_le (Nat.div_le_self i w)
/-- WHAT AGREES ADDS UP -/
theorem stl_adds {w H : Nat} {L : Nat → Int} (hw : 2 ≤ w) (hL : ∀ i, i < nds w H → ((w ^ H : Nat) : Int) ∣ L i) {i : Nat} (hi : i < inr w H) : sumN (stl w L) (w * i + 1) w = stl w L i := by
  have h1 := stl_dvd hw hL i (by have := inr_lt w H (by omega); omega)
  have hlv := (lev_lt (w := w) (by omega) H _).2 hi
  obtain ⟨k, hk⟩ : ∃ k, H - lev w i = k + 1 := ⟨H - lev w i - 1, by omega⟩
  have hs : ((w ^ H : Nat) : Int) ∣ sumN L (w * i + 1) w := sumN_dvd fun j hj => hL _ (kid_lt (by omega) hi hj)
  rw [sumN_congr (g := fun j => L j + (stl w L i - sumN L (w * i + 1) w).tdiv (w : Int)) fun j hj => stl_kid hj, sumN_plus]
  have hd : (w : Int) ∣ stl w L i - sumN L (w * i + 1) w := by
    refine Int.dvd_sub (Int.dvd_trans ?_ h1) (Int.dvd_trans ?_ hs)
    · rw [hk]; exact Int.natCast_dvd_natCast.2 ⟨w ^ k, by rw [Nat.pow_succ, Nat.mul_comm]⟩
    · obtain ⟨H', rfl⟩ : ∃ H', H = H' + 1 := ⟨H - 1, by omega⟩
      exact Int.natCast_dvd_natCast.2 ⟨w ^ H', by rw [Nat.pow_succ, Nat.mul_comm]⟩
  obtain ⟨a, ha⟩ := hd
  rw [ha, Int.mul_tdiv_cancel_left _ (by omega)]
  omega
theorem stl_stay {w H : Nat} {L : Nat → Int} (hw : 2 ≤ w) (ha : ∀ i, i < inr w H → sumN L (w * i + 1) w = L i) : ∀ i, i < nds w H → stl w L i = L i
  | 0, _ => stl_zero w L
  | i + 1, hi => by
    have hp := par_inr (by omega) hi
    rw [stl_succ, stl_stay hw ha (i / w) (by have := inr_lt w H (by omega); omega), ha _ hp, Int.sub_self, Int.zero_tdiv, Int.add_zero]
decreasing_by exact Nat.lt_succ_of_le (Nat.div_le_self i w)

/-! ### lowest terms -/
theorem nat_dvd_int {n : Nat} {x : Int} : (n : Int) ∣ x ↔ n ∣ x.natAbs := by rw [← Int.natAbs_dvd_natAbs, Int.natAbs_natCast]
def gl (g : Nat) (f : Nat → Int) : Nat → Nat
  | 0 => g
  | k + 1 => Nat.gcd (gl g f k) (f k).natAbs
theorem gl_pos {g : Nat} (hg : 1 ≤ g) (f : Nat → Int) : ∀ k, 1 ≤ gl g f k
  | 0 => hg
  | k + 1 => Nat.gcd_pos_of_pos_left _ (gl_pos hg f k)
theorem gl_dvd (g : Nat) (f : Nat → Int) : ∀ k, gl g f k ∣ g
  | 0 => Nat.dvd_refl _
  | k + 1 => Nat.dvd_trans (Nat.gcd_dvd_left _ _) (gl_dvd g f k)
theorem gl_le {g : Nat} (hg : 1 ≤ g) (f : Nat → Int) (k : Nat) : gl g f k ≤ g := Nat.le_of_dvd hg (gl_dvd g f k)
theorem gl_dvd_f {g : Nat} {f : Nat → Int} : ∀ {k i : Nat}, i < k → ((gl g f k : Nat) : Int) ∣ f i
  | k + 1, i, h => by
    by_cases e : i = k
    · subst e
      exact nat_dvd_int.2 (Nat.gcd_dvd_right _ _)
    · exact Int.dvd_trans (Int.natCast_dvd_natCast.2 (Nat.gcd_dvd_left _ _)) (gl_dvd_f (k := k) (by omega))
theorem gl_congr {g : Nat} {f f' : Nat → Int} : ∀ {k : Nat}, (∀ i, i < k → f i = f' i) → gl g f k = gl g f' k
  | 0, _ => rfl
  | k + 1, h => by rw [gl, gl, gl_congr (k := k) fun i hi => h i (by omega), h k (by omega)]
theorem gl_all {g : Nat} {f : Nat → Int} (h : ∀ i, ((g : Nat) : Int) ∣ f i) : ∀ k, gl g f k = g
  | 0 => rfl
  | k + 1 => by
    rw [gl, gl_all h k]
    exact Nat.gcd_eq_left (nat_dvd_int.1 (h k))
end Go.Proofs.Ytgfndaiilhbkmaa.Ds
