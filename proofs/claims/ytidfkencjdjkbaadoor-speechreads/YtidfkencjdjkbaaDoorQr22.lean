import Derived.Test.YtidfkencjdjkbaaDoorQr06
import Derived.Test.YtidfkencjdjkbaaDoorQr12
/-
  PACKAGE speech: how long a piece is.
-/
namespace Go.Proofs.YtidfkencjdjkbaaDoor
open Go.RowKit Sp

theorem let_dig {c : UInt8} (h : letB c = true) : digB c = false := by
  simp only [letB, digB, Bool.or_eq_true, Bool.and_eq_true, decide_eq_true_eq] at h ⊢
  simp
  omega
theorem run_head (p : UInt8 → Bool) (c : UInt8) (r : By) : (p c = false → runL p (c :: r) = 0) ∧ (p c = true → 0 < runL p (c :: r)) := by
  constructor
  · intro h; simp [runL, h]
  · intro h; simp [runL, h]
theorem idx_mem (c : UInt8) : ∀ l : By, (0 ≤ Lib.indexByte l c) ↔ c ∈ l
  | [] => by simp [Lib.indexByte]
  | b :: l => by
    have ih := idx_mem c l
    have hg := Lib.indexByte_ge l c
    simp only [Lib.indexByte]
    by_cases h : b = c
    · subst h; simp
    · have hb : (b == c) = false := by simpa using h
      rw [hb]
      simp only [Bool.false_eq_true, if_false, List.mem_cons, Ne.symm h, false_or]
      rw [← ih]
      by_cases h2 : Lib.indexByte l c = -1
      · simp [h2]
      · have h3 : (Lib.indexByte l c == -1) = false := by simpa using h2
        rw [h3]
        simp only [Bool.false_eq_true, if_false]
        omega
theorem tx_ext (t : By) (i j : Nat) : (tx t).extract i j = tx ((t.drop i).take (j - i)) := by
  have h : ((tx t).extract i j).data = (tx ((t.drop i).take (j - i))).data := by
    simp
    try rw [List.take_drop]
  cases hx : (tx t).extract i j with
  | mk d => rw [hx] at h; simp only at h; rw [h]
set_option maxHeartbeats 1000000 in
theorem long_any (a : UInt8) (s : By) (hs : s.length ≤ 65536) (w : World) : Calls Tryd.prog 26 #[.string (tx (a :: s))] w fun e w' => e = .returned (.int .i64 (lonN (a :: s) : Int)) ∧ w' = w := by
  have hsz : (tx (a :: s)).size ≤ 9223372036854775807 := by show (a :: s).toArray.size ≤ _; simp; omega
  obtain ⟨n1, h1⟩ : ∃ n, runL letB (a :: s) = n := ⟨_, rfl⟩
  obtain ⟨n2, h2⟩ : ∃ n, runL digB (a :: s) = n := ⟨_, rfl⟩
  have k1 := letters_any (tx (a :: s)) hsz w n1 h1
  have k2 := digits_any (tx (a :: s)) hsz w n2 h2
  obtain ⟨L, hL⟩ : ∃ L, lonN (a :: s) = L := ⟨_, rfl⟩
  rw [hL]
  go_enter Tryd.func26, Tryd.ntmps26
  go_wp2_with fail
  refine k1.mono ?_
  rintro e w1 ⟨rfl, rfl⟩
  go_wp2_with fail
  refine k2.mono ?_
  rintro e w1 ⟨rfl, rfl⟩
  clear k1 k2
  by_cases c1 : letB a = true
  · have hp := (run_head letB a s).2 c1
    rw [h1] at hp
    obtain rfl : n2 = 0 := by rw [← h2]; exact (run_head digB a s).1 (let_dig c1)
    obtain rfl : n1 = L := by rw [← hL, ← h1, lonN, if_pos c1]
    have e1 : (0 : Int) < (n1 : Int) := by omega
    clear h1 h2 hL c1
    go_wp2
    go_ret
    exact ⟨rfl, rfl⟩
  · by_cases c2 : digB a = true
    · have hp := (run_head digB a s).2 c2
      rw [h2] at hp
      obtain rfl : n1 = 0 := by rw [← h1]; exact (run_head letB a s).1 (by simpa using c1)
      obtain rfl : n2 = L := by rw [← hL, ← h2, lonN, if_neg c1, if_pos c2]
      have e1 : (0 : Int) < (n2 : Int) := by omega
      clear h1 h2 hL c1 c2
      go_wp2
      go_ret
      exact ⟨rfl, rfl⟩
    · obtain rfl : n1 = 0 := by rw [← h1]; exact (run_head letB a s).1 (by simpa using c1)
      obtain rfl : n2 = 0 := by rw [← h2]; exact (run_head digB a s).1 (by simpa using c2)
      have hl : (if twoB ((a :: s).take 2) then 2 else if oneB a then 1 else 0) = L := by rw [← hL, lonN, if_neg c1, if_neg c2]
      clear hL
      obtain ⟨ix, hix⟩ : ∃ ix, Lib.indexByte [43, 45, 42, 40, 41, 91, 93, 44, 61, 60, 62] a = ix := ⟨_, rfl⟩
      have hix2 := idx_mem a [43, 45, 42, 40, 41, 91, 93, 44, 61, 60, 62]
      rw [hix] at hix2
      have HIX : Hid (0 ≤ ix ↔ a ∈ ([43, 45, 42, 40, 41, 91, 93, 44, 61, 60, 62] : By)) := hix2
      clear hix2
      have ki := Tryd.strings_IndexByte (tx [43, 45, 42, 40, 41, 91, 93, 44, 61, 60, 62]) (a.toNat : Int) w1
      have e3 : Lib.indexByte (tx [43, 45, 42, 40, 41, 91, 93, 44, 61, 60, 62]).data.toList (((a.toNat : Int)).toNat.toUInt8) = ix := by
        rw [← hix]
        congr 1
        simp
      rw [e3] at ki
      have e0 : ∀ h, (tx (a :: s))[0]'h = a := fun _ => rfl
      clear h1 h2 hix e3
      cases s with
      | nil =>
        have ht : twoB ([a].take 2) = false := by simp [twoB]
        rw [ht] at hl
        clear ht c1 c2
        go_wp2_with fail
        refine ki.mono ?_
        rintro e w2 ⟨rfl, rfl⟩
        clear ki
        by_cases c3 : 0 ≤ ix
        · have c4 : oneB a = true := by simp only [oneB]; simpa using HIX.out.1 c3
          rw [c4] at hl
          obtain rfl : 1 = L := by simpa using hl
          have c5 : decide (0 ≤ ix) = true := by simpa using c3
          clear hl c4
          go_wp2
          go_ret
          exact ⟨rfl, rfl⟩
        · have c4 : oneB a = false := by
            cases hb : oneB a with
            | false => rfl
            | true => exact absurd (HIX.out.2 (by simp only [oneB] at hb; simpa using hb)) c3
          rw [c4] at hl
          obtain rfl : 0 = L := by simpa using hl
          have c5 : decide (0 ≤ ix) = false := by simpa using c3
          clear hl c4
          go_wp2
          go_ret
          exact ⟨rfl, rfl⟩
      | cons b s =>
        obtain ⟨tb, htb⟩ : ∃ tb, twoB [a, b] = tb := ⟨_, rfl⟩
        have kt := two_any [a, b] tb htb w1
        have hx := tx_ext (a :: b :: s) 0 2
        simp only [List.drop_zero, Nat.sub_zero, List.take_succ_cons, List.take_zero] at hx
        have hl : (if twoB [a, b] then 2 else if oneB a then 1 else 0) = L := hl
        rw [htb] at hl
        clear htb c1 c2
        go_wp2_with fail
        refine kt.mono ?_
        rintro e w2 ⟨rfl, rfl⟩
        cases tb with
        | true =>
          obtain rfl : 2 = L := by simpa using hl
          go_wp2
          go_ret
          exact ⟨rfl, rfl⟩
        | false =>
          go_wp2_with fail
          refine ki.mono ?_
          rintro e w2 ⟨rfl, rfl⟩
          clear ki
          by_cases c3 : 0 ≤ ix
          · have c4 : oneB a = true := by simp only [oneB]; simpa using HIX.out.1 c3
            rw [c4] at hl
            obtain rfl : 1 = L := by simpa using hl
            have c5 : decide (0 ≤ ix) = true := by simpa using c3
            clear hl c4
            go_wp2
            go_ret
            exact ⟨rfl, rfl⟩
          · have c4 : oneB a = false := by
              cases hb : oneB a with
              | false => rfl
              | true => exact absurd (HIX.out.2 (by simp only [oneB] at hb; simpa using hb)) c3
            rw [c4] at hl
            obtain rfl : 0 = L := by simpa using hl
            have c5 : decide (0 ≤ ix) = false := by simpa using c3
            clear hl c4
            go_wp2
            go_ret
            exact ⟨rfl, rfl⟩
end Go.Proofs.YtidfkencjdjkbaaDoor

/-
  PACKAGE speech: a text is cut into pieces.
-/
namespace Go.Proofs.YtidfkencjdjkbaaDoor
open Go.RowKit Sp

theorem lon_le (c : UInt8) (r : By) : lonN (c :: r) ≤ (c :: r).length := by
  rw [lonN_cons]
  have h1 := runL_le letB (c :: r)
  have h2 := runL_le digB (c :: r)
  split
  · exact h1
  · split
    · exact h2
    · split
      · rename_i h
        cases r with
        | nil => simp [twoB] at h
        | cons d r => simp
      · split <;> simp
theorem run_take (p : UInt8 → Bool) : ∀ s : By, (s.take (runL p s)).all p = true
  | [] => by simp [runL]
  | c :: r => by
    simp only [runL]
    by_cases h : p c = true
    · rw [if_pos h]
      simp only [List.take_succ_cons, List.all_cons, h, Bool.true_and]
      exact run_take p r
    · rw [if_neg h]; simp
theorem lon_dg (c : UInt8) (r : By) (h : fstD ((c :: r).take (lonN (c :: r))) = true) : ((c :: r).take (lonN (c :: r))).all digB = true := by
  by_cases h0 : lonN (c :: r) = 0
  · rw [h0]; simp
  obtain ⟨n, hn⟩ : ∃ n, lonN (c :: r) = n + 1 := ⟨lonN (c :: r) - 1, by omega⟩
  have hd : digB c = true := by
    rw [hn] at h
    exact h
  have hl : letB c = false := by
    cases hb : letB c with
    | false => rfl
    | true => rw [let_dig hb] at hd; cases hd
  rw [lonN_cons, hl, hd]
  simp only [Bool.false_eq_true, if_false, if_true]
  exact run_take digB (c :: r)
theorem cut_step (c : UInt8) (r : By) (hc : ¬ (c = 32 ∨ c = 10)) (a : Nat) : cutT (c :: r) a = if lonN (c :: r) = 0 then .error a else Sp.ahead [((c :: r).take (lonN (c :: r)), a)] (cutT ((c :: r).drop (lonN (c :: r))) (a + lonN (c :: r))) := by
  by_cases h0 : lonN (c :: r) = 0
  · rw [if_pos h0]
    show cutF (r.length + 1) (c :: r) a = _
    simp only [cutF]
    rw [if_neg hc, if_pos h0]
  · rw [if_neg h0]
    have hle := lon_le c r
    obtain ⟨n, hn⟩ : ∃ n, lonN (c :: r) = n + 1 := ⟨lonN (c :: r) - 1, by omega⟩
    have ht : (c :: r).take (lonN (c :: r)) = c :: r.take n := by rw [hn]; rfl
    have hlen : ((c :: r).take (lonN (c :: r))).length = lonN (c :: r) := by rw [List.length_take]; omega
    have := cutT_pc (z := (c :: r).drop (lonN (c :: r))) ht hc (by rw [List.take_append_drop]; exact hlen.symm) a
    rw [List.take_append_drop, hlen] at this
    exact this
theorem cut_good : ∀ (n : Nat) (s : By) (a : Nat) (ps : List Pc), s.length ≤ n → cutT s a = .ok ps → Fin ps ∧ (∀ p ∈ ps, (fstD p.1 = true → p.1.all digB = true) ∧ p.1.length ≤ s.length ∧ p.2 ≤ a + s.length) ∧ ps.length ≤ s.length + 1
  | n, [], a, ps, _, h => by
    rw [cutT_nil] at h
    injection h with h
    subst h
    exact ⟨rfl, by intro p hp; simp at hp; subst hp; simp, by simp⟩
  | 0, c :: r, a, ps, hn, h => by simp at hn
  | n + 1, c :: r, a, ps, hn, h => by
    simp at hn
    by_cases hc : c = 32 ∨ c = 10
    · rw [cutT_sp c hc] at h
      obtain ⟨h1, h2, h3⟩ := cut_good n r (a + 1) ps (by omega) h
      exact ⟨h1, fun p hp => ⟨(h2 p hp).1, by have := (h2 p hp).2.1; simp; omega, by have := (h2 p hp).2.2; simp; omega⟩, by simp; omega⟩
    · rw [cut_step c r hc] at h
      by_cases h0 : lonN (c :: r) = 0
      · rw [if_pos h0] at h; cases h
      · rw [if_neg h0] at h
        have hle := lon_le c r
        cases hq : cutT ((c :: r).drop (lonN (c :: r))) (a + lonN (c :: r)) with
        | error e => rw [hq] at h; cases h
        | ok qs =>
          rw [hq] at h
          have h : [((c :: r).take (lonN (c :: r)), a)] ++ qs = ps := by injection h
          subst h
          have hdl : ((c :: r).drop (lonN (c :: r))).length = (c :: r).length - lonN (c :: r) := List.length_drop ..
          obtain ⟨h1, h2, h3⟩ := cut_good n _ _ qs (by rw [hdl]; simp; omega) hq
          have hne : (c :: r).take (lonN (c :: r)) ≠ [] := by
            intro e
            have := congrArg List.length e
            rw [List.length_take] at this
            simp at this
            omega
          refine ⟨?_, ?_, ?_⟩
          · have := h1.ne
            cases qs with
            | nil => exact absurd rfl this
            | cons q qs => exact ⟨hne, h1⟩
          · intro p hp
            simp only [List.singleton_append, List.mem_cons] at hp
            rcases hp with rfl | hp
            · exact ⟨lon_dg c r, by simp only [List.length_take]; omega, by simp⟩
            · obtain ⟨g1, g2, g3⟩ := h2 p hp
              rw [hdl] at g2 g3
              exact ⟨g1, by omega, by omega⟩
          · rw [hdl] at h3
            simp at h3 ⊢
            omega
end Go.Proofs.YtidfkencjdjkbaaDoor
