import Derived.Test.YtgfndaiilhbkmaaLay
namespace Go.Proofs.Ytgfndaiilhbkmaa
open Go.RowKit Go.Proofs.Ytgfndaiilhbkmaa.Ds

def LinP (w H : Nat) (e : Ending) : Prop := (lin w H ≤ 1073741824 → e = .returned (.tuple #[.int .i64 ((lin w H : Nat) : Int), .int .i64 0])) ∧ (1073741824 < lin w H → e = .returned (.tuple #[.int .i64 0, .int .i64 4]))

set_option maxRecDepth 100000 in
set_option maxHeartbeats 2000000 in
theorem line_any (w H n l : Nat) (hw : 2 ≤ w) (hw2 : w ≤ 16) (hH : H ≤ 10) (hl : w ^ H = l) (hl2 : l ≤ 1024) (W : World) : Calls Try.prog 22 #[shV w H n l] W fun e W' => LinP w H e ∧ Below W.heap.size W W' := by
  obtain ⟨X, hX⟩ : ∃ X, W.alloc (.cells #[.int .i64 (w : Int), .int .i64 (H : Int), .int .i64 (n : Int), .int .i64 (l : Int)] 35) = X := ⟨_, rfl⟩
  have bX : Below W.heap.size W X := by rw [← hX]; exact ba _ _
  have sX : ShB X W.heap.size (.int .i64 (w : Int)) (.int .i64 (H : Int)) (.int .i64 (n : Int)) (.int .i64 (l : Int)) := by rw [← hX]; exact ShB.new _ _ _ _ _ _ rfl
  have t0 := sX.c0
  have t1 := sX.c1
  have t2 := sX.c2
  have t3 := sX.c3
  have hlt := sX.lt
  have HL : Hid (w ^ H = l) := hl
  have HSX : Hid (ShB X W.heap.size (.int .i64 (w : Int)) (.int .i64 (H : Int)) (.int .i64 (n : Int)) (.int .i64 (l : Int))) := sX
  clear hl sX
  go_enter Try.func22, Try.ntmps22
  go_wp2_with fail
  go_quiet (fail)
  go_wp2_with fail
  go_loopw [4, 5, 12] (fun o q s wr => ∃ (i a p : Nat), s = .int .i64 (i : Int) ∧ o = .int .i64 (a : Int) ∧ q = .int .i64 (p : Int) ∧ i ≤ H ∧ Hid (l * prd w i = a) ∧ Hid (w ^ (i + 1) = p) ∧ a ≤ 1073741824 ∧ p ≤ 16384 ∧ Hid (ShB wr W.heap.size (.int .i64 (w : Int)) (.int .i64 (H : Int)) (.int .i64 (n : Int)) (.int .i64 (l : Int))) ∧ Below W.heap.size W wr) (fun _ _ s _ => H - (intOf s).toNat)
  case atStart => exact ⟨0, l, w, rfl, rfl, rfl, Nat.zero_le _, by simp [Hid, prd], by simp [Hid], by omega, by omega, HSX.out.at (below_drewN (Below.refl _ _) _), below_drewN bX _⟩
  case round =>
    obtain ⟨i, a, p, rfl, rfl, rfl, hi, HA, HP, ha, hp, HS, hbl⟩ := hrel
    clear t0 t1 t2 t3
    by_cases c1 : i < H
    · obtain ⟨q, hq⟩ : ∃ q, p * w = q := ⟨_, rfl⟩
      have hpl : p ≤ 1024 := by
        have : w ^ (i + 1) ≤ w ^ H := Nat.pow_le_pow_right (by omega) (by omega)
        rw [HP.out, HL.out] at this; omega
      have hqi : (p : Int) * (w : Int) = (q : Int) := by rw [← hq]; simp
      have hq2 : q ≤ 16384 := by rw [← hq]; exact Nat.le_trans (Nat.mul_le_mul hpl hw2) (by decide)
      have HQ2 : Hid (w ^ (i + 1 + 1) = q) := by rw [Hid, Nat.pow_succ, HP.out, hq]
      have hq4 : 4 ≤ q := by rw [← HQ2.out]; exact pow_big hw i
      obtain ⟨b, hb⟩ : ∃ b, a * (q - 1) = b := ⟨_, rfl⟩
      have hbi : (a : Int) * ((q : Int) - 1) = (b : Int) := by rw [← hb, Int.natCast_mul, Int.natCast_sub (by omega)]; rfl
      have hb2 : b ≤ 17592186044416 := by rw [← hb]; exact Nat.le_trans (Nat.mul_le_mul ha (show q - 1 ≤ 16384 by omega)) (by decide)
      have HB : Hid (l * prd w (i + 1) = b) := by rw [Hid, prd, ← Nat.mul_assoc, HA.out, show w ^ (i + 2) = q from HQ2.out, hb]
      have hw1 : IntKind.i64.wrap ((p : Int) * (w : Int)) = (q : Int) := by rw [hqi, IntKind.wrap_i64]; omega
      have hw3 : IntKind.i64.wrap ((a : Int) * ((q : Int) - 1)) = (b : Int) := by rw [hbi, IntKind.wrap_i64]; omega
      have t0 := HS.out.c0
      have z1 : (i : Int) < (H : Int) := by omega
      clear hq hb
      by_cases c2 : b > 1073741824
      · have c3 : (b : Int) > 1073741824 := by omega
        have HM : Hid (1073741824 < lin w H) := by
          have h1 := prd_mono hw (show i + 1 ≤ H by omega)
          have h2 : l * prd w (i + 1) ≤ l * prd w H := Nat.mul_le_mul_left _ h1
          rw [HB.out] at h2
          rw [Hid, lin, HL.out]; omega
        go_wp2
        exact bodyPost_ret (v := .tuple #[.int .i64 0, .int .i64 4]) (by simp [results, Try.results22, go_sem]) rfl ⟨⟨fun h => absurd h (Nat.not_le_of_lt HM.out), fun _ => rfl⟩, hbl⟩
      · have c3 : ¬ (b : Int) > 1073741824 := by omega
        go_wp2
        go_roundw
        case rel => exact ⟨i + 1, b, q, by go_num, rfl, rfl, by omega, HB, HQ2, by omega, hq2, HS, hbl⟩
        case measure => simp [intOf]; omega
    · obtain rfl : i = H := by omega
      have z1 : ¬ (i : Int) < (i : Int) := by omega
      have HE : Hid (lin w i = a) := by rw [Hid, lin, HL.out, HA.out]
      go_wp2
      exact bodyPost_ret (v := .tuple #[.int .i64 (a : Int), .int .i64 0]) (by simp [results, Try.results22, go_sem]) rfl ⟨⟨fun _ => by rw [HE.out], fun h => by rw [HE.out] at h; omega⟩, hbl⟩

/-- what Size answers -/
def szE (a b : Int) : Int := if (2 ≤ a ∧ a ≤ 16) ∧ 0 ≤ b ∧ b ≤ 10 then (if nds a.toNat b.toNat ≤ 1024 then 0 else 4) else 3
def szN (a b : Int) : Nat := if szE a b = 0 then nds a.toNat b.toNat else 0
theorem szE_bad {a b : Int} (h : ¬ ((2 ≤ a ∧ a ≤ 16) ∧ 0 ≤ b ∧ b ≤ 10)) : szE a b = 3 := by rw [szE, if_neg h]
theorem szE_ok {w H : Nat} (hw : 2 ≤ w) (hw2 : w ≤ 16) (hH : H ≤ 10) (hn : nds w H ≤ 1024) : szE w H = 0 := by rw [szE, if_pos (by omega), if_pos (by simpa using hn)]
theorem szE_much {w H : Nat} (hw : 2 ≤ w) (hw2 : w ≤ 16) (hH : H ≤ 10) (hn : ¬ nds w H ≤ 1024) : szE w H = 4 := by rw [szE, if_pos (by omega), if_neg (by simpa using hn)]
/-- all three ways -/
theorem sz_cases (a b : Int) : (szE a b = 3 ∧ ¬ ((2 ≤ a ∧ a ≤ 16) ∧ 0 ≤ b ∧ b ≤ 10)) ∨ ∃ w H : Nat, a = w ∧ b = H ∧ 2 ≤ w ∧ w ≤ 16 ∧ H ≤ 10 ∧ ((szE a b = 4 ∧ 1024 < nds w H) ∨ (szE a b = 0 ∧ nds w H ≤ 1024)) := by
  by_cases h : (2 ≤ a ∧ a ≤ 16) ∧ 0 ≤ b ∧ b ≤ 10
  · obtain ⟨w, rfl⟩ := Int.eq_ofNat_of_zero_le (show 0 ≤ a by omega)
    obtain ⟨H, rfl⟩ := Int.eq_ofNat_of_zero_le (show 0 ≤ b by omega)
    refine .inr ⟨w, H, rfl, rfl, by omega, by omega, by omega, ?_⟩
    by_cases hn : nds w H ≤ 1024
    · exact .inr ⟨szE_ok (by omega) (by omega) (by omega) hn, hn⟩
    · exact .inl ⟨szE_much (by omega) (by omega) (by omega) hn, by omega⟩
  · exact .inl ⟨szE_bad h, h⟩
theorem size_any (a b : Int) (W : World) (n : Nat) (er : Int) (hn : szN a b = n) (he : szE a b = er) : Calls Try.prog 6 #[.int .i64 a, .int .i64 b] W fun e W' => e = .returned (.tuple #[.int .i64 (n : Int), .int .i64 er]) ∧ Below W.heap.size W W' := by
  rcases sz_cases a b with ⟨h1, h2⟩ | ⟨w, H, rfl, rfl, hw, hw2, hH, ⟨h1, h2⟩ | ⟨h1, h2⟩⟩
  · have kc := lay_bad a b h2 W
    obtain rfl : 3 = er := by rw [← he, h1]
    obtain rfl : 0 = n := by rw [← hn, szN, h1]; rfl
    clear hn he h1 h2
    go_enter Try.func6, Try.ntmps6
    go_wp2_with fail
    refine kc.mono ?_
    rintro e1 w1 ⟨rfl, hb1⟩
    clear kc
    go_wp2
    go_ret2
    exact ⟨rfl, bal hb1 _⟩
  · have kc := lay_any w H hw hw2 hH W
    obtain rfl : 4 = er := by rw [← he, h1]
    obtain rfl : 0 = n := by rw [← hn, szN, h1]; rfl
    have HH : Hid (1024 < nds w H) := h2
    clear hn he h1 h2
    go_enter Try.func6, Try.ntmps6
    go_wp2_with fail
    refine kc.mono ?_
    rintro e1 w1 ⟨hL, hb1⟩
    obtain rfl := hL.2 HH.out
    clear kc hL
    go_wp2
    go_ret2
    exact ⟨rfl, bal hb1 _⟩
  · have kc := lay_any w H hw hw2 hH W
    obtain rfl : 0 = er := by rw [← he, h1]
    have HN : Hid (nds w H = n) := by rw [Hid, ← hn, szN, if_pos h1]; simp
    have HH : Hid (nds w H ≤ 1024) := h2
    clear hn he h1 h2
    go_enter Try.func6, Try.ntmps6
    go_wp2_with fail
    refine kc.mono ?_
    rintro e1 w1 ⟨hL, hb1⟩
    have hL2 := hL.1 HH.out
    rw [HN.out] at hL2
    subst hL2
    clear kc hL
    go_wp2
    go_ret2
    exact ⟨rfl, bal hb1 _⟩
end Go.Proofs.Ytgfndaiilhbkmaa
