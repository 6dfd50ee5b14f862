import Derived.Test.YtgfndaiilhbkmaaRf2
import Derived.Test.YtgfndaiilhbkmaaPsm
namespace Go.Proofs.Ytgfndaiilhbkmaa
open Go.RowKit Go.Proofs.Ytgfndaiilhbkmaa.Ds

theorem small_of {xs : List Int} {n : Nat} (h : wrE xs n = 0) : (!xs.any badB) = true := by rw [(wrE_zero h).2]; rfl

set_option maxHeartbeats 1000000 in
theorem rsums_bad (a b : Int) (B : Nat) (v : Value) (xs : List Int) (W : World) (hx : Num W B v xs) (er : Int) (he : smE a b xs = er) (hne : er ≠ 0) :
    Calls Try.prog 9 #[.int .i64 a, .int .i64 b, v] W fun e W' => e = .returned (.tuple #[.slice none 0 0, .int .i64 er]) ∧ Below W.heap.size W W' := by
  have HX : Hid (Num W B v xs) := hx
  have HE : Hid (smE a b xs = er) := he
  obtain ⟨va, vc, rfl, hvc, hvl⟩ := hx.slice
  have n1 : (er == 0) = false := by simpa using hne
  have n2 : (er != 0) = true := by simpa using hne
  obtain ⟨n, hn⟩ : ∃ n, szN a b = n := ⟨_, rfl⟩
  clear hx he
  by_cases hz : szE a b = 0
  · rcases sz_cases a b with ⟨h1, h2⟩ | ⟨w, H, rfl, rfl, hw, hw2, hH, ⟨h1, h2⟩ | ⟨h1, h2⟩⟩
    · rw [h1] at hz; simp at hz
    · rw [h1] at hz; simp at hz
    have ks := rsize_any w H W n 0 hn hz
    have HW : Hid (wrE xs (w ^ H) = er) := by have := HE.out; rw [smE, if_pos h1] at this; simpa [Hid] using this
    obtain ⟨q, hq⟩ : ∃ q, w ^ H = q := ⟨_, rfl⟩
    have hq2 : q ≤ 1024 := by rw [← hq]; exact Nat.le_trans (pow_le_nds w H) h2
    have kp := fun V => power_any w H q (by omega) hw2 (by omega) hq (by omega) V
    rw [hq] at HW
    clear h1 h2 hz hn hq
    by_cases h3 : xs.length = q
    · have HW2 : Hid (xs.any badB = true ∧ er = 3) := by
        have := HW.out
        rw [wrE, if_pos h3] at this
        cases hb : xs.any badB with
        | true => rw [hb] at this; exact ⟨rfl, this.symm⟩
        | false => rw [hb] at this; exact absurd this.symm hne
      obtain rfl : er = 3 := HW2.out.2
      have km := fun V hV => small_any B (.slice va xs.length vc) xs V hV false (by rw [HW2.out.1]; rfl)
      have z1 : ((xs.length : Int) != (q : Int)) = false := by simp; omega
      have z2 : (xs.length : Int) = (q : Int) := by omega
      have KM := km W HX.out
      clear h3 HW km
      go_enter Try.func9, Try.ntmps9
      go_wp2_with fail
      refine ks.mono ?_
      rintro e1 w1 ⟨rfl, rfl⟩
      clear ks
      go_wp2_with fail
      refine (kp _).mono ?_
      rintro e2 w2 ⟨rfl, rfl⟩
      clear kp
      go_wp2_with fail
      refine KM.mono ?_
      rintro e3 w3 ⟨rfl, rfl⟩
      clear KM
      go_wp2
      go_ret2
      exact ⟨rfl, Below.refl _ _⟩
    · obtain rfl : 8 = er := by rw [← HW.out, wrE, if_neg h3]
      have z1 : ((xs.length : Int) != (q : Int)) = true := by simp; omega
      have z2 : ¬ (xs.length : Int) = (q : Int) := by omega
      clear h3 HW
      go_enter Try.func9, Try.ntmps9
      go_wp2_with fail
      refine ks.mono ?_
      rintro e1 w1 ⟨rfl, rfl⟩
      clear ks
      go_wp2_with fail
      refine (kp _).mono ?_
      rintro e2 w2 ⟨rfl, rfl⟩
      clear kp
      go_wp2
      go_ret2
      exact ⟨rfl, Below.refl _ _⟩
  · obtain rfl : szE a b = er := by rw [← HE.out, smE, if_neg hz]
    obtain ⟨er, her⟩ : ∃ er, szE a b = er := ⟨_, rfl⟩
    have ks := rsize_any a b W n er hn her
    rw [her] at n1 n2
    simp only [her]
    clear hz hn her hne HE
    go_enter Try.func9, Try.ntmps9
    go_wp2_with fail
    refine ks.mono ?_
    rintro e1 w1 ⟨rfl, rfl⟩
    clear ks
    go_wp2
    go_ret2
    exact ⟨rfl, Below.refl _ _⟩

set_option maxRecDepth 100000 in
set_option maxHeartbeats 4000000 in
theorem rsums_ok (w H n q B : Nat) (v : Value) (xs : List Int) (hw : 2 ≤ w) (hw2 : w ≤ 16) (hH : H ≤ 10) (hn : nds w H = n) (hn2 : n ≤ 1024) (hq : w ^ H = q) (W : World) (hB : B ≤ W.heap.size) (hx : Num W B v xs) (he : wrE xs q = 0) :
    Calls Try.prog 9 #[.int .i64 (w : Int), .int .i64 (H : Int), v] W fun e W' => ∃ g, e = .returned (.tuple #[.slice (some ⟨g, 0, none⟩) n n, .int .i64 0]) ∧ W.heap.size ≤ g ∧ Arr W' g n (sumF w H xs) ∧ Below W.heap.size W W' := by
  have HX : Hid (Num W B v xs) := hx
  have hxl := (wrE_zero he).1
  have HH : Hid (nds w H = n ∧ w ^ H = q ∧ wrE xs q = 0) := ⟨hn, hq, he⟩
  obtain ⟨va, vc, rfl, hvc, hvl⟩ := hx.slice
  have h5 := szE_ok hw hw2 hH (by omega : nds w H ≤ 1024)
  have ks := rsize_any w H W n 0 (by rw [szN, if_pos h5]; simpa using hn) h5
  obtain ⟨inn, hin⟩ : ∃ inn, inr w H = inn := ⟨_, rfl⟩
  have hia := inr_add w H
  rw [hin, hn, hq] at hia
  have hqp : 1 ≤ q := by rw [← hq]; exact Nat.pow_pos (by omega)
  have HI : Hid (inr w H = inn) := hin
  have kp := fun V => power_any w H q (by omega) hw2 (by omega) hq (by omega) V
  have km := small_any B (.slice va xs.length vc) xs W HX.out true (small_of he)
  have hmk := make_ints n (by omega)
  rw [hxl] at km HX hvc hvl ⊢
  have z1 : ((q : Int) != (q : Int)) = false := by simp
  have HXL : Hid (xs.length = q) := hxl
  have HFB : Hid (∀ i, i < n → (sumF w H xs i).natAbs ≤ 1024 * 65536) := fun i hi => sumF_le (by omega) (by omega) (good_abs (wrE_zero he).2) (by rw [hn]; exact hi)
  clear hx hn hq he h5 hin hxl
  go_enter Try.func9, Try.ntmps9
  go_wp2_with fail
  refine ks.mono ?_
  rintro e1 w1 ⟨rfl, hw1⟩
  have hwy := hw1.symm
  subst hwy
  clear ks hw1
  go_wp2_with fail
  refine (kp _).mono ?_
  rintro e2 w2 ⟨rfl, hw2'⟩
  have hwy := hw2'.symm
  subst hwy
  clear kp hw2'
  go_wp2_with fail
  refine km.mono ?_
  rintro e3 w3 ⟨rfl, hw3⟩
  have hwy := hw3.symm
  subst hwy
  clear km hw3
  go_wp2_with fail
  go_loopw [11] (fun s wr => ∃ (k : Nat), s = .int .i64 ((k : Int) - 1) ∧ k ≤ n ∧ Hid (Arr wr W.heap.size n (stt (sumF w H xs) (fun _ => 0) k)) ∧ Below W.heap.size W wr) (fun s _ => (intOf s + 1).toNat)
  case atStart => exact ⟨n, by go_num, Nat.le_refl _, (Arr.made _ _ _ rfl).congr fun i hi => by rw [stt, if_neg (by omega)], ba _ _⟩
  case round =>
    obtain ⟨k, rfl, hk, HA, hbl⟩ := hrel
    cases k with
    | zero =>
      have HE : Hid (Arr wr W.heap.size n (sumF w H xs)) := HA.out.congr fun i _ => stt_end _ _ i
      go_wp2
      go_ret2
      exact ⟨_, rfl, Nat.le_refl _, HE.out, hbl⟩
    | succ i =>
      have hi : i < n := by omega
      have e1 : ((i + 1 : Nat) : Int) - 1 = (i : Int) := by omega
      have z0 : (i : Int) ≥ 0 := by omega
      have z4 : (n : Int) - (q : Int) = (inn : Int) := by omega
      have z3 : (i : Int) < (n : Int) := by omega
      have cI := HA.out.cells i hi
      have fI := HA.out.thaw i hi
      rw [stt, if_neg (by omega)] at cI
      have HSET : Hid (∀ (V : World) (y : Int), Arr V W.heap.size n (stt (sumF w H xs) (fun _ => 0) (i + 1)) → sumF w H xs i = y → Arr (V.setCell ⟨W.heap.size, i, none⟩ (.int .i64 y)) W.heap.size n (stt (sumF w H xs) (fun _ => 0) i)) := fun V y hV hy => (hV.set i hi y).congr fun j _ => by
        unfold upd stt
        by_cases e : j = i
        · subst e; rw [if_pos rfl, if_pos (Nat.le_refl _), hy]
        · rw [if_neg e]
          by_cases e2 : i + 1 ≤ j
          · rw [if_pos e2, if_pos (by omega)]
          · rw [if_neg e2, if_neg (by omega)]
      rw [e1]
      clear e1
      by_cases c1 : inn ≤ i
      · have c2 : (i : Int) ≥ (inn : Int) := by omega
        obtain ⟨j, hj⟩ : ∃ j, i - inn = j := ⟨_, rfl⟩
        have hjq : j < q := by omega
        obtain ⟨b, o, c', x, he, _, hbB, hxx, hcx⟩ := (HX.out.at hB hbl).get (i := j) (by rw [HXL.out]; exact hjq)
        rw [HXL.out] at he
        simp only [Value.slice.injEq] at he
        obtain ⟨rfl, -, rfl⟩ := he
        have hji : (i : Int) - (inn : Int) = (j : Int) := by omega
        have HY : Hid (sumF w H xs i = x) := by
          rw [Hid, sumF, risF_leaf (by omega) (by rw [HH.out.1]; exact hi) (by rw [HI.out]; omega), HI.out, hj, List.getD, hxx]; rfl
        have HA2 : Hid (Arr (wr.setCell ⟨W.heap.size, i, none⟩ (.int .i64 x)) W.heap.size n (stt (sumF w H xs) (fun _ => 0) i)) := HSET.out wr x HA.out HY.out
        have hbl2 : Below W.heap.size W (wr.setCell ⟨W.heap.size, i, none⟩ (.int .i64 x)) := bs hbl (Nat.le_refl _) _
        have z5 : (j : Int) < (q : Int) := by omega
        clear hxx hj HSET
        go_wp2
        go_roundw
        case rel => exact ⟨i, by first | rfl | go_num, by omega, HA2, hbl2⟩
        case measure => simp [intOf]; try omega
      · have c2 : ¬ (i : Int) ≥ (inn : Int) := by omega
        have c4 : ¬ inn ≤ i := by omega
        have hil : i < inr w H := by rw [HI.out]; omega
        have kk := fun V => kids_any w i hw hw2 (by omega) V
        have hkd : ∀ j, j < w → w * i + 1 + j < n := fun j hj => by rw [← HH.out.1]; exact kid_lt (by omega) hil hj
        have hwm : 1 * i ≤ w * i := Nat.mul_le_mul_right _ (by omega)
        have hse : sumN (stt (sumF w H xs) (fun _ => 0) (i + 1)) (w * i + 1) w = sumF w H xs i := by
          rw [← sumF_adds (by omega) hil]
          exact sumN_congr fun j _ => by rw [stt, if_pos (by omega)]
        have hfb : ∀ j, j < w → (stt (sumF w H xs) (fun _ => 0) (i + 1) (w * i + 1 + j)).natAbs ≤ 144115188075855872 := fun j hj => by
          rw [stt, if_pos (by omega)]
          exact Nat.le_trans (HFB.out _ (hkd j hj)) (by decide)
        obtain ⟨y, hy⟩ : ∃ y, sumF w H xs i = y := ⟨_, rfl⟩
        rw [hy] at hse
        have KS : Hid (∀ (V : World) (gk ck : Nat), Arr V W.heap.size n (stt (sumF w H xs) (fun _ => 0) (i + 1)) → Arr V gk w (fun j => ((w * i + 1 + j : Nat) : Int)) → Calls Try.prog 20 #[.slice (some ⟨W.heap.size, 0, none⟩) n n, .slice (some ⟨gk, 0, none⟩) w ck] V fun e W' => e = .returned (.int .i64 y) ∧ W' = V) := fun V gk ck h1 h2 => ssum_any W.heap.size n n gk ck w i _ hw2 hkd V h1 h2 hfb y hse
        have HY : Hid (sumF w H xs i = y) := hy
        clear hkd hwm hse hfb hy hil cI fI
        go_wp2_with fail
        refine (kk _).mono ?_
        rintro e4 w4 ⟨g4, c4', rfl, hc4, hg4, hA4, hb4⟩
        have HA4 : Hid (Arr w4 W.heap.size n (stt (sumF w H xs) (fun _ => 0) (i + 1))) := HA.out.at hb4
        have kv := KS.out w4 g4 c4' HA4.out hA4
        have b4 : Below W.heap.size W w4 := bt hbl hb4
        clear kk KS hA4
        go_wp2_with fail
        refine kv.mono ?_
        rintro e5 w5 ⟨rfl, hw5⟩
        have hwy := hw5.symm
        subst hwy
        clear kv hw5
        have cI := HA4.out.cells i hi
        have fI := HA4.out.thaw i hi
        have HA2 : Hid (Arr (w4.setCell ⟨W.heap.size, i, none⟩ (.int .i64 y)) W.heap.size n (stt (sumF w H xs) (fun _ => 0) i)) := HSET.out w4 y HA4.out HY.out
        have hbl2 : Below W.heap.size W (w4.setCell ⟨W.heap.size, i, none⟩ (.int .i64 y)) := bs b4 (Nat.le_refl _) _
        clear HSET
        go_wp2
        go_roundw
        case rel => exact ⟨i, by first | rfl | go_num, by omega, HA2, hbl2⟩
        case measure => simp [intOf]; try omega
end Go.Proofs.Ytgfndaiilhbkmaa
