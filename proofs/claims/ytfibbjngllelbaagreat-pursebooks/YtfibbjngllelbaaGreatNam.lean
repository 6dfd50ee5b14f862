import Derived.Test.YtfibbjngllelbaaGreatMem
import Derived.Test.YtfibbjngllelbaaGreatTbl
namespace Go.Proofs.YtfibbjngllelbaaGreat
open Go.RowKit Go.Proofs.YtfibbjngllelbaaGreat.Ds

theorem drop_str {s : ByteArray} {n : Nat} (h : n < s.size) : s.data.toList.drop n = s[n] :: s.data.toList.drop (n + 1) := by
  rw [List.drop_eq_getElem_cons (by simpa using h)]; rfl
theorem ln_step {s : ByteArray} {n : Nat} (h : n < s.size) : lnT (s.data.toList.drop n) = if letB s[n] then lnT (s.data.toList.drop (n + 1)) + 1 else 0 := by
  rw [drop_str h]; rfl
theorem all_step {s : ByteArray} {n : Nat} (h : n < s.size) : (s.data.toList.take (n + 1)).all letB = ((s.data.toList.take n).all letB && letB s[n]) := by
  rw [List.take_succ_eq_append_getElem (by simpa using h), List.all_append]; simp; rfl
theorem all_no {s : ByteArray} {n : Nat} (h : n < s.size) (h2 : letB s[n] = false) : s.data.toList.all letB = false := by
  rw [← List.take_append_drop n s.data.toList, List.all_append, drop_str h, List.all_cons, h2]; simp
theorem letter_any (b : Nat) (w : World) (r : Bool) (hr : (decide (97 ≤ b) && decide (b ≤ 122) || decide (b = 95)) = r) : Calls Tryz.prog 101 #[.int .u8 (b : Int)] w fun e w' => e = .returned (.bool r) ∧ w' = w := by
  have HR : Hid ((decide (97 ≤ b) && decide (b ≤ 122) || decide (b = 95)) = r) := hr
  clear hr
  go_enter Tryz.func101, Tryz.ntmps101
  by_cases h1 : 97 ≤ b
  · by_cases h2 : b ≤ 122
    · obtain rfl : true = r := by rw [← HR.out]; simp [h1, h2]
      go_wp2
      go_ret
      exact ⟨rfl, rfl⟩
    · have h3 : b ≠ 95 := by omega
      obtain rfl : false = r := by rw [← HR.out]; simp [h2, h3]
      go_wp2
      go_ret
      exact ⟨ret_b (by simp; omega), rfl⟩
  · by_cases h3 : b = 95
    · subst h3
      obtain rfl : true = r := by rw [← HR.out]; simp
      go_wp2
      go_ret
      exact ⟨rfl, rfl⟩
    · obtain rfl : false = r := by rw [← HR.out]; simp [h1, h3]
      go_wp2
      go_ret
      exact ⟨ret_b (by simp; omega), rfl⟩

set_option maxHeartbeats 400000 in
theorem run_any (s : ByteArray) (hs : s.size ≤ 9223372036854775807) (w : World) (r : Nat) (hr : lnT s.data.toList = r) : Calls Tryz.prog 100 #[.string s, .func (.func 101) #[] #[]] w fun e w' => e = .returned (.int .i64 (r : Int)) ∧ w' = w := by
  have HR : Hid (lnT s.data.toList = r) := hr
  clear hr
  go_enter Tryz.func100, Tryz.ntmps100
  go_wp2
  go_loopw [5] (fun nv wr => ∃ n : Nat, nv = .int .i64 (n : Int) ∧ n ≤ s.size ∧ Hid (n + lnT (s.data.toList.drop n) = r) ∧ wr = w) (fun nv _ => s.size - (intOf nv).toNat)
  case atStart => exact ⟨0, rfl, Nat.zero_le _, by simpa [Hid] using HR.out, rfl⟩
  case round =>
    obtain ⟨n, rfl, hn, HI, rfl⟩ := hrel
    by_cases h1 : n < s.size
    · have ST : Hid (lnT (s.data.toList.drop n) = if letB s[n] then lnT (s.data.toList.drop (n + 1)) + 1 else 0) := ln_step h1
      cases hb : letB s[n] with
      | true =>
        have HB : Hid (letB s[n] = true) := hb
        clear hb
        go_wp2_with fail
        refine (letter_any s[n].toNat _ true HB.out).mono ?_
        rintro e w1 ⟨rfl, rfl⟩
        go_wp2
        go_roundw
        case rel => exact ⟨n + 1, by go_num, h1, by have h2 := HI.out; rw [ST.out, HB.out] at h2; simp only [if_true] at h2; show _ = r; omega, trivial⟩
        case measure => simp [intOf]; omega
      | false =>
        have HB : Hid (letB s[n] = false) := hb
        clear hb
        have HN : Hid (n = r) := by have h2 := HI.out; rw [ST.out, HB.out] at h2; simpa [Hid] using h2
        go_wp2_with fail
        refine (letter_any s[n].toNat _ false HB.out).mono ?_
        rintro e w1 ⟨rfl, rfl⟩
        go_wp2
        go_ret
        exact ⟨by rw [← HN.out]; rfl, rfl⟩
    · have HN : Hid (n = r) := by have h2 := HI.out; rw [List.drop_eq_nil_of_le (by simp; omega)] at h2; simpa [lnT, Hid] using h2
      go_wp2
      go_ret
      exact ⟨by rw [← HN.out]; rfl, rfl⟩

theorem letters_any (s : ByteArray) (hs : s.size ≤ 9223372036854775807) (w : World) (r : Nat) (hr : lnT s.data.toList = r) : Calls Tryz.prog 82 #[.string s] w fun e w' => e = .returned (.int .i64 (r : Int)) ∧ w' = w := by
  have k := run_any s hs w r hr
  clear hr
  go_enter Tryz.func82, Tryz.ntmps82
  go_wp2_with fail
  refine k.mono ?_
  rintro e w1 ⟨rfl, rfl⟩
  go_wp2
  go_ret
  exact ⟨rfl, rfl⟩
/-- may it be a name? -/
theorem named_any (s : ByteArray) (hs : s.size ≤ 9223372036854775807) (w : World) (r : Bool) (hr : namB s.data.toList = r) : Calls Tryz.prog 62 #[.string s] w fun e w' => e = .returned (.bool r) ∧ w' = w := by
  have HR : Hid (namB s.data.toList = r) := hr
  have hl : Hid (s.data.toList.length = s.size) := by simp [Hid]
  clear hr
  go_enter Tryz.func62, Tryz.ntmps62
  by_cases h1 : 1 ≤ s.size
  · by_cases h2 : s.size ≤ 32
    · go_wp2_with fail
      refine (letters_any s hs _ _ rfl).mono ?_
      rintro e w1 ⟨rfl, rfl⟩
      go_wp2
      go_ret
      refine ⟨ret_b ?_, rfl⟩
      rw [← HR.out, namB, hl.out]
      have := lnT_all s.data.toList
      rw [hl.out] at this
      simp only [h1, h2, decide_true, Bool.true_and]
      rw [Bool.eq_iff_iff, ← this]
      simp
      omega
    · obtain rfl : false = r := by rw [← HR.out, namB, hl.out]; simp [h2]
      go_wp2
      go_ret
      exact ⟨rfl, rfl⟩
  · obtain rfl : false = r := by rw [← HR.out, namB, hl.out]; simp [h1]
    go_wp2
    go_ret
    exact ⟨rfl, rfl⟩

set_option maxHeartbeats 400000 in
theorem rnamed_any (s : ByteArray) (hs : s.size ≤ 9223372036854775807) (w : World) (r : Bool) (hr : namB s.data.toList = r) : Calls Tryz.prog 29 #[.string s] w fun e w' => e = .returned (.bool r) ∧ w' = w := by
  have HR : Hid (namB s.data.toList = r) := hr
  have hl : Hid (s.data.toList.length = s.size) := by simp [Hid]
  clear hr
  go_enter Tryz.func29, Tryz.ntmps29
  go_wp2
  go_loopw [3] (fun nv wr => ∃ n : Nat, nv = .int .i64 (n : Int) ∧ n ≤ s.size ∧ Hid ((s.data.toList.take n).all letB = true) ∧ wr = w) (fun nv _ => s.size - (intOf nv).toNat)
  case atStart => exact ⟨0, rfl, Nat.zero_le _, by simp [Hid], rfl⟩
  case round =>
    obtain ⟨n, rfl, hn, HI, rfl⟩ := hrel
    by_cases h1 : n < s.size
    · have ST : Hid ((s.data.toList.take (n + 1)).all letB = ((s.data.toList.take n).all letB && letB s[n])) := all_step h1
      have ST2 : Hid (letB s[n] = false → s.data.toList.all letB = false) := all_no h1
      have HV : Hid (letB s[n] = (decide (97 ≤ s[n].toNat) && decide (s[n].toNat ≤ 122) || decide (s[n].toNat = 95))) := rfl
      by_cases g1 : 97 ≤ s[n].toNat
      · by_cases g2 : s[n].toNat ≤ 122
        · go_wp2
          go_roundw
          case rel => exact ⟨n + 1, by go_num, h1, by show _ = true; rw [ST.out, HI.out, HV.out]; simp [g1, g2], trivial⟩
          case measure => simp [intOf]; omega
        · have g4 : (((s[n].toNat : Nat) : Int) == 95) = false := by simp; omega
          have g5 : decide (((s[n].toNat : Nat) : Int) ≤ 122) = false := by simp; omega
          obtain rfl : false = r := by
            rw [← HR.out, namB, ST2.out (by rw [HV.out]; simp; omega)]; simp
          go_wp2
          go_ret
          exact ⟨rfl, rfl⟩
      · by_cases g3 : s[n].toNat = 95
        · have g4 : (((s[n].toNat : Nat) : Int) == 95) = true := by simp; omega
          go_wp2
          go_roundw
          case rel => exact ⟨n + 1, by go_num, h1, by show _ = true; rw [ST.out, HI.out, HV.out]; simp [g3], trivial⟩
          case measure => simp [intOf]; omega
        · have g4 : (((s[n].toNat : Nat) : Int) == 95) = false := by simp; omega
          obtain rfl : false = r := by
            rw [← HR.out, namB, ST2.out (by rw [HV.out]; simp; omega)]; simp
          go_wp2
          go_ret
          exact ⟨rfl, rfl⟩
    · have HN : Hid (s.data.toList.all letB = true) := by have h2 := HI.out; rwa [List.take_of_length_le (by simp; omega)] at h2
      by_cases k1 : 0 < s.size
      · by_cases k2 : s.size ≤ 32
        · obtain rfl : true = r := by rw [← HR.out, namB, hl.out, HN.out]; simp; omega
          go_wp2
          go_ret
          exact ⟨ret_b (by simp; omega), rfl⟩
        · obtain rfl : false = r := by rw [← HR.out, namB, hl.out]; simp [k2]
          go_wp2
          go_ret
          exact ⟨ret_b (by simp; omega), rfl⟩
      · obtain rfl : false = r := by rw [← HR.out, namB, hl.out]; simp; omega
        go_wp2
        go_ret
        exact ⟨rfl, rfl⟩
end Go.Proofs.YtfibbjngllelbaaGreat
