import Derived.Test.YtgfndaiilhbkmaaTog
namespace Go.Proofs.Ytgfndaiilhbkmaa
open Go.RowKit Go.Proofs.Ytgfndaiilhbkmaa.Ds

set_option maxRecDepth 100000 in
set_option maxHeartbeats 4000000 in
theorem riseS_any (w H g n c q : Nat) (F b : Nat → Int) (hw : 2 ≤ w) (hw2 : w ≤ 16) (hn : nds w H = n) (hn2 : n ≤ 1024) (hq : w ^ H = q) (W : World) (hA : Arr W g n (stt F b (inr w H)))
    (hsb : ∀ m, m < inr w H → -9223372036854775808 ≤ sumN F (w * m + 1) w ∧ sumN F (w * m + 1) w ≤ 9223372036854775807)
    (hmk : ∀ (V : World) (m : Nat) (s : Int), m < inr w H → sumN F (w * m + 1) w = s → W.grownBy V (some g) → Arr V g n (stt F b (m + 1)) → Calls Try.prog 32 #[.int .i64 (m : Int), .int .i64 s] V fun e V' => e = .returned (.int .i64 (F m)) ∧ Below V.heap.size V V') :
    Calls Try.prog 31 #[shV w H n q, .slice (some ⟨g, 0, none⟩) n c, .func (.func 32) #[] #[]] W fun e W' => e = .returned (.tuple #[]) ∧ Arr W' g n F ∧ W.grownBy W' (some g) := by
  obtain ⟨inn, hin⟩ : ∃ inn, inr w H = inn := ⟨_, rfl⟩
  have hia := inr_add w H
  have hil := inr_lt w H (by omega)
  rw [hin, hn, hq] at hia
  rw [hin, hn] at hil
  have HKD : Hid (∀ m, m < inn → ∀ j, j < w → w * m + 1 + j < n) := fun m hm j hj => by rw [← hn]; exact kid_lt (by omega) (by rw [hin]; exact hm) hj
  rw [hin] at hA hsb hmk
  have HSB : Hid (∀ m, m < inn → -9223372036854775808 ≤ sumN F (w * m + 1) w ∧ sumN F (w * m + 1) w ≤ 9223372036854775807) := hsb
  have HMK : Hid (∀ (V : World) (m : Nat) (s : Int), m < inn → sumN F (w * m + 1) w = s → W.grownBy V (some g) → Arr V g n (stt F b (m + 1)) → Calls Try.prog 32 #[.int .i64 (m : Int), .int .i64 s] V fun e V' => e = .returned (.int .i64 (F m)) ∧ Below V.heap.size V V') := hmk
  obtain ⟨X, hX⟩ : ∃ X, W.alloc (.cells #[.int .i64 (w : Int), .int .i64 (H : Int), .int .i64 (n : Int), .int .i64 (q : Int)] 35) = X := ⟨_, rfl⟩
  have bX : Below W.heap.size W X := by rw [← hX]; exact ba _ _
  have sX : ShB X W.heap.size (.int .i64 (w : Int)) (.int .i64 (H : Int)) (.int .i64 (n : Int)) (.int .i64 (q : Int)) := by rw [← hX]; exact ShB.new _ _ _ _ _ _ rfl
  have hgW := hA.lt
  have aX : Arr X g n (stt F b inn) := hA.at bX
  have HAX : Hid (Arr X g n (stt F b inn)) := aX
  have HSX : Hid (ShB X W.heap.size (.int .i64 (w : Int)) (.int .i64 (H : Int)) (.int .i64 (n : Int)) (.int .i64 (q : Int))) := sX
  have ki := inner_any w H n q inn hn2 hia X
  have t0 := sX.c0
  have t1 := sX.c1
  have t2 := sX.c2
  have t3 := sX.c3
  clear hA hsb hmk sX aX hn hq hin hia
  go_enter Try.func31, Try.ntmps31
  go_wp2_with fail
  refine ki.mono ?_
  rintro e1 w1 ⟨rfl, hb1⟩
  clear ki t0 t1 t2 t3
  have HA1 : Hid (Arr w1 g n (stt F b inn)) := HAX.out.at hb1
  have HS1 : Hid (ShB w1 W.heap.size (.int .i64 (w : Int)) (.int .i64 (H : Int)) (.int .i64 (n : Int)) (.int .i64 (q : Int))) := HSX.out.at hb1
  have hbW1 : Below W.heap.size W w1 := bt bX hb1
  go_wp2_with fail
  go_loopw [6] (fun s wr => ∃ (k : Nat), s = .int .i64 ((k : Int) - 1) ∧ k ≤ inn ∧ Hid (Arr wr g n (stt F b k)) ∧ Hid (ShB wr W.heap.size (.int .i64 (w : Int)) (.int .i64 (H : Int)) (.int .i64 (n : Int)) (.int .i64 (q : Int))) ∧ Hid (W.grownBy wr (some g))) (fun s _ => (intOf s + 1).toNat)
  case atStart => exact ⟨inn, by go_num, Nat.le_refl _, HA1.out, HS1.out, gb_below hbW1⟩
  case round =>
    obtain ⟨k, rfl, hk, HA, HS, HG⟩ := hrel
    cases k with
    | zero =>
      have HE : Hid (Arr wr g n F) := HA.out.congr fun i _ => stt_end F b i
      go_wp2
      go_end0
      exact ⟨rfl, HE.out, HG.out⟩
    | succ m =>
      have hm : m < inn := by omega
      obtain ⟨s, hs⟩ : ∃ s, sumN F (w * m + 1) w = s := ⟨_, rfl⟩
      have hse : sumN (stt F b (m + 1)) (w * m + 1) w = s := by
        rw [← hs]
        refine sumN_congr fun j _ => ?_
        have : 1 * m ≤ w * m := Nat.mul_le_mul_right _ (by omega)
        rw [stt, if_pos (by omega)]
      have hsb := HSB.out m hm
      rw [hs] at hsb
      have kt := together_any w H n q g n c m (stt F b (m + 1)) hw2 (by omega) (HKD.out m hm) wr HA.out s hse hsb
      have HSE : Hid (sumN F (w * m + 1) w = s) := hs
      have t0 := HS.out.c0
      have t1 := HS.out.c1
      have t2 := HS.out.c2
      have t3 := HS.out.c3
      have z1 : ((m + 1 : Nat) : Int) - 1 = (m : Int) := by omega
      have z2 : (m : Int) ≥ 0 := by omega
      have z3 : (m : Int) < (n : Int) := by omega
      rw [z1]
      clear hs hse hsb z1
      go_wp2_with fail
      refine kt.mono ?_
      rintro e2 w2 ⟨rfl, hb2⟩
      clear kt t0 t1 t2 t3
      have HA2 : Hid (Arr w2 g n (stt F b (m + 1))) := HA.out.at hb2
      have HS2 : Hid (ShB w2 W.heap.size (.int .i64 (w : Int)) (.int .i64 (H : Int)) (.int .i64 (n : Int)) (.int .i64 (q : Int))) := HS.out.at hb2
      have HG2 : Hid (W.grownBy w2 (some g)) := gb_trans HG.out (gb_below hb2)
      have km := HMK.out w2 m s hm HSE.out HG2.out HA2.out
      go_wp2_with fail
      refine km.mono ?_
      rintro e3 w3 ⟨rfl, hb3⟩
      clear km
      have HA3 : Hid (Arr w3 g n (stt F b (m + 1))) := HA2.out.at hb3
      have c3 := HA3.out.cells m (by omega)
      have f3 := HA3.out.thaw m (by omega)
      have HA4 : Hid (Arr (w3.setCell ⟨g, m, none⟩ (.int .i64 (F m))) g n (stt F b m)) := (HA3.out.set m (by omega) (F m)).congr fun i _ => by
        unfold upd stt
        by_cases e : i = m
        · subst e; simp
        · rw [if_neg e]
          by_cases e2 : m + 1 ≤ i
          · rw [if_pos e2, if_pos (by omega)]
          · rw [if_neg e2, if_neg (by omega)]
      have HS4 : Hid (ShB (w3.setCell ⟨g, m, none⟩ (.int .i64 (F m))) W.heap.size (.int .i64 (w : Int)) (.int .i64 (H : Int)) (.int .i64 (n : Int)) (.int .i64 (q : Int))) := (HS2.out.at hb3).beside (by simp; omega) _
      have HG4 : Hid (W.grownBy (w3.setCell ⟨g, m, none⟩ (.int .i64 (F m))) (some g)) := gb_set (gb_trans HG2.out (gb_below hb3)) m _
      obtain ⟨y, hy⟩ : ∃ y, F m = y := ⟨_, rfl⟩
      rw [hy] at HA4 HS4 HG4 ⊢
      clear hy
      go_wp2
      go_roundw
      case rel => exact ⟨m, by first | rfl | go_num, by omega, HA4, HS4, HG4⟩
      case measure => simp [intOf]; try omega
end Go.Proofs.Ytgfndaiilhbkmaa
