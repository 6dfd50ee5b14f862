import Derived.Test.YtgfndaiilhbkmaaAgr
namespace Go.Proofs.Ytgfndaiilhbkmaa
open Go.RowKit Go.Proofs.Ytgfndaiilhbkmaa.Ds

set_option maxHeartbeats 1000000 in
/-- two lists of the same numbers -/
theorem same_list (g1 c1 g2 c2 n : Nat) (hn : n ≤ 1024) (f : Nat → Int) (W : World) (h1 : Arr W g1 n f) (h2 : Arr W g2 n f) :
    Calls Try.prog 10 #[.slice (some ⟨g1, 0, none⟩) n c1, .slice (some ⟨g2, 0, none⟩) n c2] W fun e W' => e = .returned (.int .i64 0) ∧ Below W.heap.size W W' := by
  have H1 : Hid (Arr W g1 n f) := h1
  have H2 : Hid (Arr W g2 n f) := h2
  clear h1 h2
  go_enter Try.func10, Try.ntmps10
  go_wp2
  go_loopw [8] (fun s wr => ∃ k : Nat, s = .int .i64 (k : Int) ∧ k ≤ n ∧ Below W.heap.size W wr) (fun s _ => n - (intOf s).toNat)
  case atStart => exact ⟨0, rfl, Nat.zero_le _, Below.refl _ _⟩
  case round =>
    obtain ⟨k, rfl, hk, hbl⟩ := hrel
    by_cases c1 : k < n
    · obtain ⟨x, hx⟩ : ∃ x, f k = x := ⟨_, rfl⟩
      have t1 := (H1.out.at hbl).cells k c1
      have t2 := (H2.out.at hbl).cells k c1
      rw [hx] at t1 t2
      have z1 : (k : Int) < (n : Int) := by omega
      have z2 : ¬ (k : Int) ≥ (n : Int) := by omega
      clear hx
      go_wp2
      go_quiet (fail)
      go_wp2
      go_roundw
      case rel => exact ⟨k + 1, by go_num, by omega, below_drewN hbl _⟩
      case measure => simp [intOf]; omega
    · obtain rfl : k = n := by omega
      have z1 : ¬ (k : Int) < (k : Int) := by omega
      go_wp2
      go_ret
      exact ⟨rfl, hbl⟩
theorem same_none (W : World) : Calls Try.prog 10 #[.slice none 0 0, .slice none 0 0] W fun e W' => e = .returned (.int .i64 0) ∧ Below W.heap.size W W' := by
  go_enter Try.func10, Try.ntmps10
  go_wp2
  go_loopw [8] (fun s wr => s = .int .i64 0 ∧ Below W.heap.size W wr) (fun s _ => 0 - (intOf s).toNat)
  case atStart => exact ⟨rfl, Below.refl _ _⟩
  case round =>
    obtain ⟨rfl, hbl⟩ := hrel
    go_wp2
    go_ret
    exact ⟨rfl, hbl⟩
theorem alive_any (W : World) : Calls Try.prog 13 #[] W fun e W' => e = .returned (.bool true) ∧ Below W.heap.size W W' := by
  have ks := size_any 2 1 W 3 0 (by decide) (by decide)
  go_enter Try.func13, Try.ntmps13
  go_wp2_with fail
  refine ks.mono ?_
  rintro e w1 ⟨rfl, hb1⟩
  clear ks
  go_wp2
  go_ret
  exact ⟨rfl, hb1⟩

/-! ### the ways through -/
theorem agE_zero {a b : Int} {xs : List Int} (h : agE a b xs = 0) : ∃ w H : Nat, a = w ∧ b = H ∧ 2 ≤ w ∧ w ≤ 16 ∧ H ≤ 10 ∧ nds w H ≤ 1024 ∧ wrE xs (nds w H) = 0 ∧ lin w H ≤ 1073741824 := by
  rcases sz_cases a b with ⟨h1, h2⟩ | ⟨w, H, rfl, rfl, hw, hw2, hH, ⟨h1, h2⟩ | ⟨h1, h2⟩⟩
  · rw [agE, h1] at h; simp at h
  · rw [agE, h1] at h; simp at h
  · rw [agE, if_pos h1] at h
    simp only [Int.toNat_natCast] at h
    by_cases h3 : wrE xs (nds w H) = 0
    · rw [if_pos h3] at h
      by_cases h4 : lin w H ≤ 1073741824
      · exact ⟨w, H, rfl, rfl, hw, hw2, hH, h2, h3, h4⟩
      · rw [if_neg h4] at h; simp at h
    · rw [if_neg h3] at h; exact absurd h h3
theorem smE_zero {a b : Int} {xs : List Int} (h : smE a b xs = 0) : ∃ w H : Nat, a = w ∧ b = H ∧ 2 ≤ w ∧ w ≤ 16 ∧ H ≤ 10 ∧ nds w H ≤ 1024 ∧ wrE xs (w ^ H) = 0 := by
  rcases sz_cases a b with ⟨h1, h2⟩ | ⟨w, H, rfl, rfl, hw, hw2, hH, ⟨h1, h2⟩ | ⟨h1, h2⟩⟩
  · rw [smE, h1] at h; simp at h
  · rw [smE, h1] at h; simp at h
  · rw [smE, if_pos h1] at h
    simp only [Int.toNat_natCast] at h
    exact ⟨w, H, rfl, rfl, hw, hw2, hH, h2, h⟩
theorem agE_fit {w H : Nat} {xs : List Int} (hw : 2 ≤ w) (hw2 : w ≤ 16) (hH : H ≤ 10) (hn : nds w H ≤ 1024) (hl : xs.length = nds w H) (hne : agE w H xs ≠ 0) : agE w H xs = 4 ∨ agE w H xs = 3 := by
  have h1 := szE_ok hw hw2 hH hn
  rw [agE, if_pos h1] at hne ⊢
  simp only [Int.toNat_natCast] at hne ⊢
  by_cases h3 : wrE xs (nds w H) = 0
  · rw [if_pos h3] at hne ⊢
    by_cases h4 : lin w H ≤ 1073741824
    · rw [if_pos h4] at hne; exact absurd rfl hne
    · rw [if_neg h4]; exact .inl rfl
  · rw [if_neg h3] at hne ⊢
    rw [wrE, if_pos hl] at hne ⊢
    by_cases h5 : xs.any badB = true
    · rw [if_pos h5]; exact .inr rfl
    · rw [if_neg h5] at hne; exact absurd rfl hne

/-! ### what agrees adds up -/
theorem tld_dvd (xs : List Int) (ln i : Nat) : ((ln : Nat) : Int) ∣ tld xs ln i := ⟨xs.getD i 0, by rw [tld, Int.mul_comm]⟩
theorem lft_pow {w H : Nat} (xs : List Int) (hw : 2 ≤ w) {i : Nat} (hi : i < nds w H) : ((w ^ H : Nat) : Int) ∣ lft w H (tld xs (lin w H)) i := by
  have h1 := (lev_le (w := w) (by omega) H i).2 hi
  have h2 := lft_dvd hw (t := tld xs (lin w H)) (fun j _ => tld_dvd xs _ j) (H - lev w i) i (by omega)
  refine Int.dvd_trans (Int.natCast_dvd_natCast.2 ?_) h2
  rw [lef]
  exact ⟨_, rfl⟩
theorem out_adds {w H : Nat} (xs : List Int) (hw : 2 ≤ w) {i : Nat} (hi : i < inr w H) : sumN (out w H xs) (w * i + 1) w = out w H xs i :=
  stl_adds hw (fun _ hj => lft_pow xs hw hj) hi
/-- .. in lowest terms -/
theorem up_adds {w H G : Nat} (xs : List Int) (hw : 2 ≤ w) (hG : gdv w H xs = G) {i : Nat} (hi : i < inr w H) : sumN (fun j => (out w H xs j).tdiv (G : Int)) (w * i + 1) w = (out w H xs i).tdiv (G : Int) := by
  have hG1 : 1 ≤ G := by rw [← hG]; exact gl_pos (lin_pos hw H) _ _
  have hGn : (G : Int) ≠ 0 := by omega
  have hd : ∀ j, j < nds w H → (G : Int) ∣ out w H xs j := fun j hj => by rw [← hG]; exact gl_dvd_f hj
  have hin := inr_lt w H (by omega)
  have h1 : sumN (fun j => (out w H xs j).tdiv (G : Int)) (w * i + 1) w * (G : Int) = out w H xs i := by
    rw [← sumN_mul, ← out_adds xs hw hi]
    exact sumN_congr fun k hk => Int.tdiv_mul_cancel (hd _ (kid_lt (by omega) hi hk))
  rw [← h1, Int.mul_tdiv_cancel _ hGn]
theorem up_abs {w H G : Nat} {xs : List Int} (hw : 2 ≤ w) (hH : H ≤ 10) (hln : lin w H ≤ 1073741824) (hb : xs.any badB = false) {i : Nat} (hi : i < nds w H) : ((out w H xs i).tdiv (G : Int)).natAbs ≤ 4 * 774056185954304 := by
  rw [Int.natAbs_tdiv]
  exact Nat.le_trans (Nat.div_le_self _ _) (out_abs hw hH hln hb hi)
/-! ### what added up already stays -/
theorem stay_out {w H : Nat} {zs : List Int} {F : Nat → Int} (hw : 2 ≤ w) (hz : ∀ i, i < nds w H → zs.getD i 0 = F i) (hF : ∀ i, i < inr w H → sumN F (w * i + 1) w = F i) {i : Nat} (hi : i < nds w H) : out w H zs i = F i * ((lin w H : Nat) : Int) := by
  have ht : ∀ j, j < nds w H → tld zs (lin w H) j = F j * ((lin w H : Nat) : Int) := fun j hj => by rw [tld, hz j hj]
  have hin := inr_lt w H (by omega)
  have ha : ∀ j, j < inr w H → sumN (tld zs (lin w H)) (w * j + 1) w = tld zs (lin w H) j := fun j hj => by
    rw [ht j (by omega), sumN_congr (g := fun k => F k * ((lin w H : Nat) : Int)) fun k hk => ht _ (kid_lt (by omega) hj hk), sumN_mul, hF j hj]
  have hl : ∀ j, j < nds w H → lft w H (tld zs (lin w H)) j = tld zs (lin w H) j := fun j hj => by
    have h1 := (lev_le (w := w) (by omega) H j).2 hj
    exact lft_stay hw (fun k _ => tld_dvd zs _ k) ha (H - lev w j) j (by omega)
  rw [out, stl_stay hw (fun j hj => ?_) i hi, hl i hi, ht i hi]
  rw [hl j (by omega), ← ha j hj]
  exact sumN_congr fun k hk => hl _ (kid_lt (by omega) hj hk)
theorem stay_gdv {w H : Nat} {zs : List Int} {F : Nat → Int} (hw : 2 ≤ w) (hz : ∀ i, i < nds w H → zs.getD i 0 = F i) (hF : ∀ i, i < inr w H → sumN F (w * i + 1) w = F i) : gdv w H zs = lin w H := by
  rw [gdv, gl_congr (f' := fun i => F i * ((lin w H : Nat) : Int)) fun i hi => stay_out hw hz hF hi]
  exact gl_all (fun i => ⟨F i, Int.mul_comm _ _⟩) _
theorem stay_up {w H : Nat} {zs : List Int} {F : Nat → Int} (hw : 2 ≤ w) (hz : ∀ i, i < nds w H → zs.getD i 0 = F i) (hF : ∀ i, i < inr w H → sumN F (w * i + 1) w = F i) {i : Nat} (hi : i < nds w H) : (out w H zs i).tdiv ((lin w H : Nat) : Int) = F i := by
  have := lin_pos hw H
  rw [stay_out hw hz hF hi, Int.mul_tdiv_cancel _ (by omega)]
theorem range_getD (f : Nat → Int) {n i : Nat} (hi : i < n) : ((List.range n).map f).getD i 0 = f i := by simp [List.getD, hi]
end Go.Proofs.Ytgfndaiilhbkmaa
