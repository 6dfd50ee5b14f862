import Derived.Test.YtgfndaiilhbkmaaSms
namespace Go.Proofs.Ytgfndaiilhbkmaa
open Go.RowKit Go.Proofs.Ytgfndaiilhbkmaa.Ds

theorem sumF_abs {w H B : Nat} {xs : List Int} (hw : 0 < w) (hx : ∀ i : Nat, (xs.getD i 0).natAbs ≤ B) : ∀ h i, lev w i + h = H → (sumF w H xs i).natAbs ≤ w ^ h * B :=
  risF_ind (P := fun h _ x => x.natAbs ≤ w ^ h * B) hw (fun i _ _ => by simpa using hx _) (fun h i _ _ hk => by
    have h1 : (sumN (risF (fun _ s => s) (fun i => xs.getD (i - inr w H) 0) w H) (w * i + 1) w).natAbs ≤ w * (w ^ h * B) := sumN_abs fun k hk2 => hk k hk2
    rw [Nat.pow_succ, Nat.mul_comm (w ^ h), Nat.mul_assoc]
    exact h1)
theorem sumF_adds {w H : Nat} {xs : List Int} (hw : 0 < w) {m : Nat} (hm : m < inr w H) : sumN (sumF w H xs) (w * m + 1) w = sumF w H xs m := by
  have := risF_inner (fun _ s => s) (fun i => xs.getD (i - inr w H) 0) hw hm
  exact this.symm
theorem sumF_le {w H B : Nat} {xs : List Int} (hw : 0 < w) (hn : nds w H ≤ 1024) (hx : ∀ i : Nat, (xs.getD i 0).natAbs ≤ B) {m : Nat} (hm : m < nds w H) : (sumF w H xs m).natAbs ≤ 1024 * B := by
  have h1 := (lev_le hw H m).2 hm
  refine Nat.le_trans (sumF_abs hw hx (H - lev w m) m (by omega)) (Nat.mul_le_mul_right _ ?_)
  have h2 : w ^ (H - lev w m) ≤ w ^ H := Nat.pow_le_pow_right hw (by omega)
  have := pow_le_nds w H
  omega
theorem good_abs {xs : List Int} (h : xs.any badB = false) (i : Nat) : (xs.getD i 0).natAbs ≤ 65536 := by
  rw [List.getD]
  cases hx : xs[i]? with
  | none => simp
  | some x =>
    have : badB x = false := by
      rcases hb : badB x with _ | _
      · rfl
      · rw [Non.hit hx hb] at h; cases h
    simp [badB] at this
    simp
    omega
theorem sumF_bd {w H B : Nat} {xs : List Int} (hw : 0 < w) (hn : nds w H ≤ 1024) (hB : B ≤ 65536) (hx : ∀ i : Nat, (xs.getD i 0).natAbs ≤ B) : ∀ m, m < inr w H → -9223372036854775808 ≤ sumN (sumF w H xs) (w * m + 1) w ∧ sumN (sumF w H xs) (w * m + 1) w ≤ 9223372036854775807 := by
  intro m hm
  have h1 := inr_lt w H hw
  have h2 := sumF_le hw hn hx (m := m) (by omega)
  rw [sumF_adds hw hm]
  have h3 : 1024 * B ≤ 1024 * 65536 := Nat.mul_le_mul_left _ hB
  omega
/-- what is wrong with the lowest ones -/
def smE (a b : Int) (xs : List Int) : Int := if szE a b = 0 then wrE xs (a.toNat ^ b.toNat) else szE a b
theorem wrE_zero {xs : List Int} {n : Nat} (h : wrE xs n = 0) : xs.length = n ∧ xs.any badB = false := by
  unfold wrE at h
  split at h
  · rename_i h1
    refine ⟨h1, ?_⟩
    cases hb : xs.any badB with
    | false => rfl
    | true => rw [hb] at h; simp at h
  · simp at h

set_option maxHeartbeats 1000000 in
theorem psums_bad (a b : Int) (B : Nat) (v : Value) (xs : List Int) (W : World) (hB : B ≤ W.heap.size) (hx : Num W B v xs) (er : Int) (he : smE a b xs = er) (hne : er ≠ 0) :
    Calls Try.prog 8 #[.int .i64 a, .int .i64 b, v] W fun e W' => e = .returned (.tuple #[.slice none 0 0, .int .i64 er]) ∧ Below W.heap.size W W' := by
  have HX : Hid (Num W B v xs) := hx
  have HE : Hid (smE a b xs = er) := he
  obtain ⟨va, vc, rfl, _⟩ := hx.slice
  have n1 : (er == 0) = false := by simpa using hne
  have n2 : (er != 0) = true := by simpa using hne
  clear hx he
  rcases sz_cases a b with ⟨h1, h2⟩ | ⟨w, H, rfl, rfl, hw, hw2, hH, ⟨h1, h2⟩ | ⟨h1, h2⟩⟩
  · have kc := lay_bad a b h2 W
    obtain rfl : 3 = er := by rw [← HE.out, smE, h1]; rfl
    clear h1 h2
    go_enter Try.func8, Try.ntmps8
    go_wp2_with fail
    refine kc.mono ?_
    rintro e1 w1 ⟨rfl, hb1⟩
    clear kc
    go_wp2
    go_ret2
    exact ⟨rfl, bal hb1 _⟩
  · have kc := lay_any w H hw hw2 hH W
    obtain rfl : 4 = er := by rw [← HE.out, smE, h1]; rfl
    have HH : Hid (1024 < nds w H) := h2
    clear h1 h2
    go_enter Try.func8, Try.ntmps8
    go_wp2_with fail
    refine kc.mono ?_
    rintro e1 w1 ⟨hL, hb1⟩
    obtain rfl := hL.2 HH.out
    clear kc hL
    go_wp2
    go_ret2
    exact ⟨rfl, bal hb1 _⟩
  · have kc := lay_any w H hw hw2 hH W
    have HH : Hid (nds w H ≤ 1024) := h2
    have HW : Hid (wrE xs (w ^ H) = er) := by have := HE.out; rw [smE, if_pos h1] at this; simpa [Hid] using this
    obtain ⟨n, hn⟩ : ∃ n, nds w H = n := ⟨_, rfl⟩
    obtain ⟨q, hq⟩ : ∃ q, w ^ H = q := ⟨_, rfl⟩
    rw [hq] at HW
    have HN : Hid (nds w H = n ∧ w ^ H = q) := ⟨hn, hq⟩
    clear h1 h2 hn hq
    go_enter Try.func8, Try.ntmps8
    go_wp2_with fail
    refine kc.mono ?_
    rintro e1 w1 ⟨hL, hb1⟩
    have hL2 := hL.1 HH.out
    rw [HN.out.1, HN.out.2] at hL2
    subst hL2
    clear kc hL
    obtain ⟨X, hX⟩ : ∃ X, w1.alloc (.cells #[.int .i64 (w : Int), .int .i64 (H : Int), .int .i64 (n : Int), .int .i64 (q : Int)] 35) = X := ⟨_, rfl⟩
    have bX : Below W.heap.size W X := by rw [← hX]; exact bal hb1 _
    have sX : ShB X w1.heap.size (.int .i64 (w : Int)) (.int .i64 (H : Int)) (.int .i64 (n : Int)) (.int .i64 (q : Int)) := by rw [← hX]; exact ShB.new _ _ _ _ _ _ rfl
    have x3 := sX.c3
    have kw := wrong_any B (.slice va xs.length vc) xs q X (HX.out.at hB bX) er HW.out
    clear sX
    go_wp2_with fail
    refine kw.mono ?_
    rintro e2 w2 ⟨rfl, rfl⟩
    clear kw
    go_wp2
    go_ret2
    exact ⟨rfl, bX⟩

set_option maxHeartbeats 1000000 in
theorem psums_ok (w H n q B : Nat) (v : Value) (xs : List Int) (hw : 2 ≤ w) (hw2 : w ≤ 16) (hH : H ≤ 10) (hn : nds w H = n) (hn2 : n ≤ 1024) (hq : w ^ H = q) (W : World) (hB : B ≤ W.heap.size) (hx : Num W B v xs) (he : wrE xs q = 0) :
    Calls Try.prog 8 #[.int .i64 (w : Int), .int .i64 (H : Int), v] W fun e W' => ∃ g, e = .returned (.tuple #[.slice (some ⟨g, 0, none⟩) n n, .int .i64 0]) ∧ W.heap.size ≤ g ∧ Arr W' g n (sumF w H xs) ∧ Below W.heap.size W W' := by
  have HX : Hid (Num W B v xs) := hx
  have HN : Hid (nds w H = n ∧ w ^ H = q ∧ wrE xs q = 0) := ⟨hn, hq, he⟩
  obtain ⟨va, vc, rfl, _⟩ := hx.slice
  have kc := lay_any w H hw hw2 hH W
  clear hx hn hq he
  go_enter Try.func8, Try.ntmps8
  go_wp2_with fail
  refine kc.mono ?_
  rintro e1 w1 ⟨hL, hb1⟩
  have hL2 := hL.1 (by rw [HN.out.1]; exact hn2)
  rw [HN.out.1, HN.out.2.1] at hL2
  subst hL2
  clear kc hL
  obtain ⟨X, hX⟩ : ∃ X, w1.alloc (.cells #[.int .i64 (w : Int), .int .i64 (H : Int), .int .i64 (n : Int), .int .i64 (q : Int)] 35) = X := ⟨_, rfl⟩
  have bX : Below W.heap.size W X := by rw [← hX]; exact bal hb1 _
  have sX : ShB X w1.heap.size (.int .i64 (w : Int)) (.int .i64 (H : Int)) (.int .i64 (n : Int)) (.int .i64 (q : Int)) := by rw [← hX]; exact ShB.new _ _ _ _ _ _ rfl
  have x0 := sX.c0
  have x1 := sX.c1
  have x2 := sX.c2
  have x3 := sX.c3
  have kw := wrong_any B (.slice va xs.length vc) xs q X (HX.out.at hB bX) 0 HN.out.2.2
  have ks := sums_any w H n q B (.slice va xs.length vc) xs hw hw2 HN.out.1 hn2 HN.out.2.1 X (Nat.le_trans hB bX.size) (HX.out.at hB bX) (wrE_zero HN.out.2.2).1 (sumF_bd (by omega) (by rw [HN.out.1]; exact hn2) (Nat.le_refl _) (good_abs (wrE_zero HN.out.2.2).2))
  have hsX := bX.size
  clear sX
  go_wp2_with fail
  refine kw.mono ?_
  rintro e2 w2 ⟨rfl, rfl⟩
  clear kw
  go_wp2_with fail
  refine ks.mono ?_
  rintro e3 w3 ⟨rfl, hA3, hb3⟩
  have HA3 : Hid (Arr w3 (w2.heap.size + 1) n (sumF w H xs)) := hA3
  clear ks hA3
  go_wp2
  go_ret2
  exact ⟨_, rfl, by omega, HA3.out, bt bX hb3⟩
end Go.Proofs.Ytgfndaiilhbkmaa
