import Derived.Test.YtgfndaiilhbkmaaArr
namespace Go.Proofs.Ytgfndaiilhbkmaa
open Go.RowKit Go.Proofs.Ytgfndaiilhbkmaa.Ds

abbrev zV : Value := .int .i64 0
theorem lay_bad (a b : Int) (hb : ¬ ((2 ≤ a ∧ a ≤ 16) ∧ 0 ≤ b ∧ b ≤ 10)) (W : World) : Calls Try.prog 15 #[.int .i64 a, .int .i64 b] W fun e W' => e = .returned (.tuple #[shV 0 0 0 0, .int .i64 3]) ∧ Below W.heap.size W W' := by
  obtain ⟨X, hX⟩ : ∃ X, W.alloc (.cells #[.int .i64 0, .int .i64 0, .int .i64 0, .int .i64 0] 35) = X := ⟨_, rfl⟩
  have bX : Below W.heap.size W X := by rw [← hX]; exact ba _ _
  have sX : ShB X W.heap.size zV zV zV zV := by rw [← hX]; exact ShB.new _ _ _ _ _ _ rfl
  have t0 := sX.c0
  have t1 := sX.c1
  have t2 := sX.c2
  have t3 := sX.c3
  have f0 := sX.f0
  obtain ⟨Y, hY⟩ : ∃ Y, ((((X.setCell ⟨W.heap.size, 0, none⟩ (.int .i64 0)).setCell ⟨W.heap.size, 1, none⟩ (.int .i64 0)).setCell ⟨W.heap.size, 2, none⟩ (.int .i64 0)).setCell ⟨W.heap.size, 3, none⟩ (.int .i64 0)) = Y := ⟨_, rfl⟩
  have sY : ShB Y W.heap.size zV zV zV zV := by rw [← hY]; exact (((sX.put0 zV).put1 zV).put2 zV).put3 zV
  have u0 := sY.c0
  have u1 := sY.c1
  have u2 := sY.c2
  have u3 := sY.c3
  have bY : Below W.heap.size W Y := by rw [← hY]; exact bs (bs (bs (bs bX (Nat.le_refl _) _) (Nat.le_refl _) _) (Nat.le_refl _) _) (Nat.le_refl _) _
  clear sX sY
  by_cases h1 : a < 2
  · clear hb
    go_enter Try.func15, Try.ntmps15
    go_wp2
    exact bodyPost_ret (v := .tuple #[shV 0 0 0 0, .int .i64 3]) (by simp [results, Try.results15, go_sem, u0, u1, u2, u3]) rfl ⟨rfl, bY⟩
  · by_cases h2 : a > 16
    · clear hb
      go_enter Try.func15, Try.ntmps15
      go_wp2
      exact bodyPost_ret (v := .tuple #[shV 0 0 0 0, .int .i64 3]) (by simp [results, Try.results15, go_sem, u0, u1, u2, u3]) rfl ⟨rfl, bY⟩
    · by_cases h3 : b < 0
      · clear hb
        go_enter Try.func15, Try.ntmps15
        go_wp2
        exact bodyPost_ret (v := .tuple #[shV 0 0 0 0, .int .i64 3]) (by simp [results, Try.results15, go_sem, u0, u1, u2, u3]) rfl ⟨rfl, bY⟩
      · have h4 : b > 10 := by omega
        clear hb
        go_enter Try.func15, Try.ntmps15
        go_wp2
        exact bodyPost_ret (v := .tuple #[shV 0 0 0 0, .int .i64 3]) (by simp [results, Try.results15, go_sem, u0, u1, u2, u3]) rfl ⟨rfl, bY⟩
/-- what lay answers of ways and high that may be -/
def LayP (w H : Nat) (e : Ending) : Prop := (nds w H ≤ 1024 → e = .returned (.tuple #[shV w H (nds w H) (w ^ H), .int .i64 0])) ∧ (1024 < nds w H → e = .returned (.tuple #[shV 0 0 0 0, .int .i64 4]))

set_option maxRecDepth 100000 in
set_option maxHeartbeats 2000000 in
theorem lay_any (w H : Nat) (hw : 2 ≤ w) (hw2 : w ≤ 16) (hH : H ≤ 10) (W : World) : Calls Try.prog 15 #[.int .i64 (w : Int), .int .i64 (H : Int)] W fun e W' => LayP w H e ∧ Below W.heap.size W W' := by
  have h1 : ¬ (w : Int) < 2 := by omega
  have h2 : ¬ (w : Int) > 16 := by omega
  have h3 : ¬ (H : Int) < 0 := by omega
  have h4 : ¬ (H : Int) > 10 := by omega
  have g1 : ¬ w < 2 := by omega
  have g2 : ¬ 16 < w := by omega
  have g4 : ¬ 10 < H := by omega
  go_enter Try.func15, Try.ntmps15
  go_wp2_with fail
  go_loopw [26] (fun s wr => ∃ (i n p : Nat), s = .int .i64 (i : Int) ∧ i ≤ H ∧ Hid (nds w i = n) ∧ Hid (w ^ i = p) ∧ n ≤ 1024 ∧ p ≤ 1024 ∧ Hid (ShB wr (W.heap.size + 1) (.int .i64 (w : Int)) (.int .i64 (H : Int)) (.int .i64 (n : Int)) (.int .i64 (p : Int))) ∧ Hid (ShB wr W.heap.size zV zV zV zV) ∧ Below W.heap.size W wr) (fun s _ => H - (intOf s).toNat)
  case atStart => exact ⟨0, 1, 1, rfl, Nat.zero_le _, rfl, by simp [Hid], by omega, by omega, ShB.new _ _ _ _ _ _ (by simp), (ShB.new W zV zV zV zV _ rfl).at (ba _ _), bal (ba _ _) _⟩
  case round =>
    obtain ⟨i, n, p, rfl, hi, HN, HP, hn, hp, HS, HZ, hbl⟩ := hrel
    have hrs := HS.out.lt
    by_cases c1 : i < H
    · obtain ⟨q, hq⟩ : ∃ q, p * w = q := ⟨_, rfl⟩
      have hqi : (p : Int) * (w : Int) = (q : Int) := by rw [← hq]; simp
      have hq2 : q ≤ 16384 := by rw [← hq]; exact Nat.le_trans (Nat.mul_le_mul hp hw2) (by decide)
      have HN2 : Hid (nds w (i + 1) = n + q) := by rw [Hid, nds_pow, HN.out, Nat.pow_succ, HP.out, hq]
      have HP2 : Hid (w ^ (i + 1) = q) := by rw [Hid, Nat.pow_succ, HP.out, hq]
      have hpn := pow_le_nds w (i + 1)
      rw [HN2.out, HP2.out] at hpn
      have hwr : IntKind.i64.wrap ((p : Int) * (w : Int)) = (q : Int) := by rw [hqi, IntKind.wrap_i64]; omega
      have t2 := HS.out.c2
      have t3 := HS.out.c3
      have f := HS.out.f0
      obtain ⟨X, hX⟩ : ∃ X, wr.setCell ⟨W.heap.size + 1, 3, none⟩ (.int .i64 (q : Int)) = X := ⟨_, rfl⟩
      have sX : ShB X (W.heap.size + 1) (.int .i64 (w : Int)) (.int .i64 (H : Int)) (.int .i64 (n : Int)) (.int .i64 (q : Int)) := by rw [← hX]; exact HS.out.put3 _
      have zX : ShB X W.heap.size zV zV zV zV := by rw [← hX]; exact HZ.out.beside (by simp) _
      have bX : Below W.heap.size W X := by rw [← hX]; exact bs hbl (by simp) _
      obtain ⟨Y, hY⟩ : ∃ Y, X.setCell ⟨W.heap.size + 1, 2, none⟩ (.int .i64 ((n : Int) + (q : Int))) = Y := ⟨_, rfl⟩
      have sY : ShB Y (W.heap.size + 1) (.int .i64 (w : Int)) (.int .i64 (H : Int)) (.int .i64 ((n : Int) + (q : Int))) (.int .i64 (q : Int)) := by rw [← hY]; exact sX.put2 _
      have zY : ShB Y W.heap.size zV zV zV zV := by rw [← hY]; exact zX.beside (by simp) _
      have bY : Below W.heap.size W Y := by rw [← hY]; exact bs bX (by simp) _
      have x2 := sX.c2
      have x3 := sX.c3
      have fX := sX.f0
      have y2 := sY.c2
      have HSY : Hid (ShB Y (W.heap.size + 1) (.int .i64 (w : Int)) (.int .i64 (H : Int)) (.int .i64 ((n : Int) + (q : Int))) (.int .i64 (q : Int))) := sY
      have z1 : (i : Int) < (H : Int) := by omega
      clear hq sX sY zX bX
      by_cases c2 : n + q > 1024
      · have c3 : (n : Int) + (q : Int) > 1024 := by omega
        have HM : Hid (1024 < nds w H) := by
          have := nds_mono w (show i + 1 ≤ H by omega)
          rw [HN2.out] at this
          rw [Hid]; omega
        have y0 := zY.c0
        have fY := zY.f0
        have k1 := zY.c1
        have k2 := zY.c2
        have k3 := zY.c3
        obtain ⟨V, hV⟩ : ∃ V, ((((Y.setCell ⟨W.heap.size, 0, none⟩ (.int .i64 0)).setCell ⟨W.heap.size, 1, none⟩ (.int .i64 0)).setCell ⟨W.heap.size, 2, none⟩ (.int .i64 0)).setCell ⟨W.heap.size, 3, none⟩ (.int .i64 0)) = V := ⟨_, rfl⟩
        have sV : ShB V W.heap.size zV zV zV zV := by rw [← hV]; exact (((zY.put0 zV).put1 zV).put2 zV).put3 zV
        have u0 := sV.c0
        have u1 := sV.c1
        have u2 := sV.c2
        have u3 := sV.c3
        have bV : Below W.heap.size W V := by rw [← hV]; exact bs (bs (bs (bs bY (Nat.le_refl _) _) (Nat.le_refl _) _) (Nat.le_refl _) _) (Nat.le_refl _) _
        clear sV zY HSY
        go_wp2
        exact bodyPost_ret (v := .tuple #[shV 0 0 0 0, .int .i64 4]) (by simp [results, Try.results15, go_sem, u0, u1, u2, u3]) rfl ⟨⟨fun h => absurd h (Nat.not_le_of_lt HM.out), fun _ => rfl⟩, bV⟩
      · have c3 : ¬ (n : Int) + (q : Int) > 1024 := by omega
        have HZY : Hid (ShB Y W.heap.size zV zV zV zV) := zY
        clear zY
        go_wp2
        go_roundw
        case rel => exact ⟨i + 1, n + q, q, by go_num, by omega, HN2, HP2, by omega, by omega, by rw [Hid, Int.natCast_add]; exact HSY.out, HZY, bY⟩
        case measure => simp [intOf]; omega
    · obtain rfl : i = H := by omega
      have z1 : ¬ (i : Int) < (i : Int) := by omega
      have t0 := HS.out.c0
      have t1 := HS.out.c1
      have t2 := HS.out.c2
      have t3 := HS.out.c3
      have y0 := HZ.out.c0
      have k1 := HZ.out.c1
      have k2 := HZ.out.c2
      have k3 := HZ.out.c3
      have fY := HZ.out.f0
      obtain ⟨V, hV⟩ : ∃ V, ((((wr.setCell ⟨W.heap.size, 0, none⟩ (.int .i64 (w : Int))).setCell ⟨W.heap.size, 1, none⟩ (.int .i64 (i : Int))).setCell ⟨W.heap.size, 2, none⟩ (.int .i64 (n : Int))).setCell ⟨W.heap.size, 3, none⟩ (.int .i64 (p : Int))) = V := ⟨_, rfl⟩
      have sV : ShB V W.heap.size (.int .i64 (w : Int)) (.int .i64 (i : Int)) (.int .i64 (n : Int)) (.int .i64 (p : Int)) := by rw [← hV]; exact (((HZ.out.put0 _).put1 _).put2 _).put3 _
      have u0 := sV.c0
      have u1 := sV.c1
      have u2 := sV.c2
      have u3 := sV.c3
      have bV : Below W.heap.size W V := by rw [← hV]; exact bs (bs (bs (bs hbl (Nat.le_refl _) _) (Nat.le_refl _) _) (Nat.le_refl _) _) (Nat.le_refl _) _
      clear sV
      go_wp2
      exact bodyPost_ret (v := .tuple #[shV w i n p, .int .i64 0]) (by simp [results, Try.results15, go_sem, u0, u1, u2, u3]) rfl ⟨⟨fun _ => by rw [HN.out, HP.out], fun h => by rw [HN.out] at h; omega⟩, bV⟩
end Go.Proofs.Ytgfndaiilhbkmaa
