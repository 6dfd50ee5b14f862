import Derived.Test.YtgmhhfipniiboaaMat
namespace Go.Proofs.Ytgmhhfipniiboaa
open Go.RowKit

theorem rst_succ (n i : Nat) : rst n (i + 1) = rst n i + (n - 1 - i) := rfl
theorem rst_le {n i : Nat} (hn : n ≤ 16) (hi : i ≤ 16) : rst n i ≤ 16 * i := by
  induction i with
  | zero => exact Nat.le_refl _
  | succ i ih => rw [rst]; have := ih (by omega); omega
theorem stF_end (m : Int) (n : Nat) (ps : List Int) (a b : Nat) (ha : a < n) (hb : b < n) : stF (shr m n ps) n (n + 1) a b = shr m n ps a b := by
  unfold stF
  by_cases e : a = b
  · subst e
    rw [if_neg (by omega), shr, if_neg (by omega), if_neg (by omega)]
  · rw [if_pos (by omega)]
theorem stF_row (sh : Nat → Nat → Int) (n i a b : Nat) (ha : a < n) (hb : b < n) : stF sh i n a b = stF sh (i + 1) (i + 1 + 1) a b := by
  unfold stF
  by_cases e : (a < b ∧ (a < i ∨ (a = i ∧ b < n))) ∨ (b < a ∧ (b < i ∨ (b = i ∧ a < n)))
  · rw [if_pos e, if_pos (by omega)]
  · rw [if_neg e, if_neg (by omega)]
theorem stF_start (sh : Nat → Nat → Int) (a b : Nat) : (0 : Int) = stF sh 0 (0 + 1) a b := by
  unfold stF
  rw [if_neg (by omega)]
set_option maxRecDepth 100000 in
set_option maxHeartbeats 4000000 in
theorem shares_any (m : Int) (n : Nat) (hm : 2 ≤ m) (hm2 : m ≤ 1073741824) (hn : 1 ≤ n) (hn2 : n ≤ 16) (B : Nat) (pv : Value) (ps : List Int) (W : World) (hB : B ≤ W.heap.size) (hp : Num W B pv ps) :
    Calls Try.prog 11 #[.int .i64 m, .int .i64 (n : Int), pv] W fun e W' => e = .returned (.slice (some ⟨W.heap.size, 0, none⟩) n n) ∧ Mat W' W.heap.size n n (shr m n ps) ∧ Below W.heap.size W W' := by
  have HP : Hid (Num W B pv ps) := hp
  obtain ⟨pa, pc, rfl, _, hpl⟩ := hp.slice
  have mk1 := make_rows n (by omega)
  have mk2 := make_ints n (by omega)
  clear hp
  go_enter Try.func11, Try.ntmps11
  go_wp2_with fail
  go_loopw [17] (fun iv wr => ∃ (j : Nat), iv = .int .i64 (j : Int) ∧ j ≤ n ∧ Hid (Mat wr W.heap.size n j (fun _ _ => 0)) ∧ wr.heap.size = W.heap.size + 1 + j ∧ Below W.heap.size W wr) (fun iv _ => n - (intOf iv).toNat)
  case atStart => exact ⟨0, rfl, Nat.zero_le _, Mat.made _ _ _ rfl _, by simp, ba _ _⟩
  case round =>
    obtain ⟨j, rfl, hj, HM, hsz, hbl⟩ := hrel
    by_cases c1 : j < n
    · have z1 : (j : Int) < (n : Int) := by omega
      have cj := (HM.out.at (ba wr (.cells (madeCells #[.int .i64 0] n) 3))).nils j (Nat.le_refl _) c1
      have fj := (HM.out.at (ba wr (.cells (madeCells #[.int .i64 0] n) 3))).thaw j c1
      have HM2 : Hid (Mat ((wr.alloc (.cells (madeCells #[.int .i64 0] n) 3)).setCell ⟨W.heap.size, j, none⟩ (.slice (some ⟨wr.heap.size, 0, none⟩) n n)) W.heap.size n (j + 1) (fun _ _ => 0)) := HM.out.next c1 hsz _ rfl
      have hb2 : Below W.heap.size W ((wr.alloc (.cells (madeCells #[.int .i64 0] n) 3)).setCell ⟨W.heap.size, j, none⟩ (.slice (some ⟨wr.heap.size, 0, none⟩) n n)) := bs (bal hbl _) (Nat.le_refl _) _
      have hs2 : ((wr.alloc (.cells (madeCells #[.int .i64 0] n) 3)).setCell ⟨W.heap.size, j, none⟩ (.slice (some ⟨wr.heap.size, 0, none⟩) n n)).heap.size = W.heap.size + 1 + (j + 1) := by simp; omega
      have HS2 : Hid (((wr.alloc (.cells (madeCells #[.int .i64 0] n) 3)).setCell ⟨W.heap.size, j, none⟩ (.slice (some ⟨wr.heap.size, 0, none⟩) n n)).heap.size = W.heap.size + 1 + (j + 1)) := hs2
      have HSZ : Hid (wr.heap.size = W.heap.size + 1 + j) := hsz
      clear hs2 hsz
      go_wp2
      go_roundw
      case rel => exact ⟨j + 1, by go_num, c1, HM2, HS2.out, hb2⟩
      case measure => simp [intOf]; omega
    · obtain rfl : j = n := by omega
      have z1 : ¬ (j : Int) < (j : Int) := by omega
      have HM0 : Hid (Mat wr W.heap.size j j (stF (shr m j ps) 0 (0 + 1))) := HM.out.congr fun a b _ _ => stF_start _ a b
      clear hsz mk1 mk2 HM
      go_wp2_with fail
      go_loopw [9, 10] (fun cv iv wr => ∃ (i : Nat), iv = .int .i64 (i : Int) ∧ cv = .int .i64 (rst j i : Int) ∧ i ≤ j ∧ Hid (Mat wr W.heap.size j j (stF (shr m j ps) i (i + 1))) ∧ Below W.heap.size W wr) (fun _ iv _ => j - (intOf iv).toNat)
      case atStart => exact ⟨0, rfl, rfl, Nat.zero_le _, HM0, hbl⟩
      case round =>
        clear hbl HM0
        obtain ⟨i, rfl, rfl, hi, HM, hbl⟩ := hrel
        have hrb := rst_le hn2 (show i ≤ 16 by omega)
        by_cases c2 : i < j
        · have z2 : (i : Int) < (j : Int) := by omega
          go_wp2_with fail
          go_loopw [9, 11] (fun cv kv wr => ∃ (k : Nat), kv = .int .i64 (k : Int) ∧ cv = .int .i64 (pos j i k : Int) ∧ i + 1 ≤ k ∧ k ≤ j ∧ Hid (Mat wr W.heap.size j j (stF (shr m j ps) i k)) ∧ Below W.heap.size W wr) (fun _ kv _ => j - (intOf kv).toNat)
          case atStart => exact ⟨i + 1, by go_num, by rw [pos, show i + 1 - i - 1 = 0 by omega]; rfl, Nat.le_refl _, by omega, HM, hbl⟩
          case round =>
            clear hbl HM
            obtain ⟨k, rfl, rfl, hk1, hk2, HM, hbl⟩ := hrel
            have hpb : pos j i k ≤ 1024 := by rw [pos]; omega
            obtain ⟨c, hc⟩ : ∃ c, pos j i k = c := ⟨_, rfl⟩
            have HC : Hid (pos j i k = c) := hc
            rw [hc] at hpb ⊢
            clear hc
            by_cases c3 : k < j
            · have z3 : (k : Int) < (j : Int) := by omega
              have HC2 : Hid (pos j i (k + 1) = c + 1) := by rw [Hid, ← HC.out, pos, pos]; omega
              obtain ⟨s, hs⟩ : ∃ s, prs m ps c = s := ⟨_, rfl⟩
              have HSH : Hid (shr m j ps i k = s) := by rw [Hid, shr, if_pos (by omega), HC.out, hs]
              have kR := HM.out.cells i c2
              have kR2 := HM.out.cells k c3
              have aI := (HM.out.rows i c2).cells k c3
              have fI := (HM.out.rows i c2).thaw k c3
              have aK := (HM.out.rows k c3).cells i c2
              have fK := (HM.out.rows k c3).thaw i c2
              have HM2 : Hid (Mat ((wr.setCell ⟨W.heap.size + 1 + i, k, none⟩ (.int .i64 s)).setCell ⟨W.heap.size + 1 + k, i, none⟩ (.int .i64 s)) W.heap.size j j (stF (shr m j ps) i (k + 1))) := HM.out.pair (by omega) c3 (shr_sym _ _ _ _ _) s HSH.out
              have hb2 : Below W.heap.size W ((wr.setCell ⟨W.heap.size + 1 + i, k, none⟩ (.int .i64 s)).setCell ⟨W.heap.size + 1 + k, i, none⟩ (.int .i64 s)) := bs (bs hbl (by simp; omega) _) (by simp; omega) _
              by_cases c4 : c < ps.length
              · have z4 : (c : Int) < (ps.length : Int) := by omega
                obtain ⟨b', o, c', y, e1, _, hbB, hyy, hcy⟩ := (HP.out.at hB hbl).get c4
                simp only [Value.slice.injEq] at e1
                obtain ⟨rfl, -, rfl⟩ := e1
                have hys : y % m = s := by rw [← hs, prs, if_pos c4, gx_get hyy]
                have km := mod_any y m hm hm2 s hys wr
                clear hyy hys hs HC HM HSH
                go_wp2_with fail
                refine km.mono ?_
                rintro e1 w1 ⟨rfl, hw1⟩
                have hwy := hw1.symm
                subst hwy
                clear km hw1
                go_wp2_with fail
                go_region
                go_wp2
                go_roundw
                case rel => exact ⟨k + 1, by go_num, by rw [HC2.out]; go_num, by omega, c3, HM2.out.at (Below.refl _ _).drew, hb2.drew⟩
                case measure => simp [intOf]; omega
              · have z4 : ¬ (c : Int) < (ps.length : Int) := by omega
                have hys : 0 = s := by rw [← hs, prs, if_neg c4]
                subst hys
                clear hs HC HM HSH
                go_wp2_with fail
                go_region
                go_wp2
                go_roundw
                case rel => exact ⟨k + 1, by go_num, by rw [HC2.out]; go_num, by omega, c3, HM2.out.at (Below.refl _ _).drew, hb2.drew⟩
                case measure => simp [intOf]; omega
            · obtain rfl : k = j := by omega
              have z3 : ¬ (k : Int) < (k : Int) := by omega
              have HC2 : Hid (rst k (i + 1) = c) := by rw [Hid, ← HC.out, pos, rst_succ]; omega
              have HM2 : Hid (Mat wr W.heap.size k k (stF (shr m k ps) (i + 1) (i + 1 + 1))) := HM.out.congr fun a b ha hb => stF_row _ k i a b ha hb
              clear HC HM
              go_wp2
              go_roundw
              case rel => exact ⟨i + 1, by go_num, by rw [HC2.out], by omega, HM2, hbl⟩
              case measure => simp [intOf]; omega
        · obtain rfl : i = j := by omega
          have z2 : ¬ (i : Int) < (i : Int) := by omega
          have HM2 : Hid (Mat wr W.heap.size i i (shr m i ps)) := HM.out.congr fun a b ha hb => stF_end m i ps a b ha hb
          clear HM
          go_wp2
          go_ret
          exact ⟨rfl, HM2.out, hbl⟩
end Go.Proofs.Ytgmhhfipniiboaa
