import Derived.Test.YtkpjjiomfgkobaaDoorHas
namespace Go.Proofs.YtkpjjiomfgkobaaDoor
open Go.RowKit Go.Proofs.YtkpjjiomfgkobaaDoor.Ds

theorem dn_step {s : ByteArray} {n : Nat} (h : n < s.size) : dnT (s.data.toList.drop n) = if digB s[n] then dnT (s.data.toList.drop (n + 1)) + 1 else 0 := by
  rw [drop_str h]; rfl
theorem digit_any (b : Nat) (w : World) (r : Bool) (hr : (decide (48 ≤ b) && decide (b ≤ 57)) = r) : Calls Tryd.prog 79 #[.int .u8 (b : Int)] w fun e w' => e = .returned (.bool r) ∧ w' = w := by
  have HR : Hid ((decide (48 ≤ b) && decide (b ≤ 57)) = r) := hr
  clear hr
  go_enter Tryd.func79, Tryd.ntmps79
  by_cases h1 : 48 ≤ b
  · by_cases h2 : b ≤ 57
    · obtain rfl : true = r := by rw [← HR.out]; simp [h1, h2]
      go_wp2
      go_ret
      exact ⟨ret_b (by simp; omega), rfl⟩
    · obtain rfl : false = r := by rw [← HR.out]; simp [h2]
      go_wp2
      go_ret
      exact ⟨ret_b (by simp; omega), rfl⟩
  · obtain rfl : false = r := by rw [← HR.out]; simp [h1]
    go_wp2
    go_ret
    exact ⟨rfl, rfl⟩

set_option maxHeartbeats 400000 in
theorem drun_any (s : ByteArray) (hs : s.size ≤ 9223372036854775807) (w : World) (r : Nat) (hr : dnT s.data.toList = r) : Calls Tryd.prog 78 #[.string s, .func (.func 79) #[] #[]] w fun e w' => e = .returned (.int .i64 (r : Int)) ∧ w' = w := by
  have HR : Hid (dnT s.data.toList = r) := hr
  clear hr
  go_enter Tryd.func78, Tryd.ntmps78
  go_wp2
  go_loopw [5] (fun nv wr => ∃ n : Nat, nv = .int .i64 (n : Int) ∧ n ≤ s.size ∧ Hid (n + dnT (s.data.toList.drop n) = r) ∧ wr = w) (fun nv _ => s.size - (intOf nv).toNat)
  case atStart => exact ⟨0, rfl, Nat.zero_le _, by simpa [Hid] using HR.out, rfl⟩
  case round =>
    obtain ⟨n, rfl, hn, HI, rfl⟩ := hrel
    by_cases h1 : n < s.size
    · have ST : Hid (dnT (s.data.toList.drop n) = if digB s[n] then dnT (s.data.toList.drop (n + 1)) + 1 else 0) := dn_step h1
      cases hb : digB s[n] with
      | true =>
        have HB : Hid (digB s[n] = true) := hb
        clear hb
        go_wp2_with fail
        refine (digit_any s[n].toNat _ true HB.out).mono ?_
        rintro e w1 ⟨rfl, rfl⟩
        go_wp2
        go_roundw
        case rel => exact ⟨n + 1, by go_num, h1, by have h2 := HI.out; rw [ST.out, HB.out] at h2; simp only [if_true] at h2; show _ = r; omega, trivial⟩
        case measure => simp [intOf]; omega
      | false =>
        have HB : Hid (digB s[n] = false) := hb
        clear hb
        have HN : Hid (n = r) := by have h2 := HI.out; rw [ST.out, HB.out] at h2; simpa [Hid] using h2
        go_wp2_with fail
        refine (digit_any s[n].toNat _ false HB.out).mono ?_
        rintro e w1 ⟨rfl, rfl⟩
        go_wp2
        go_ret
        exact ⟨by rw [← HN.out]; rfl, rfl⟩
    · have HN : Hid (n = r) := by have h2 := HI.out; rw [List.drop_eq_nil_of_le (by simp; omega)] at h2; simpa [dnT, Hid] using h2
      go_wp2
      go_ret
      exact ⟨by rw [← HN.out]; rfl, rfl⟩
theorem digits_any (s : ByteArray) (hs : s.size ≤ 9223372036854775807) (w : World) (r : Nat) (hr : dnT s.data.toList = r) : Calls Tryd.prog 69 #[.string s] w fun e w' => e = .returned (.int .i64 (r : Int)) ∧ w' = w := by
  have k := drun_any s hs w r hr
  clear hr
  go_enter Tryd.func69, Tryd.ntmps69
  go_wp2_with fail
  refine k.mono ?_
  rintro e w1 ⟨rfl, rfl⟩
  go_wp2
  go_ret
  exact ⟨rfl, rfl⟩



theorem ext_list (T : ByteArray) (i j : Nat) : (T.extract i j).data.toList = (T.data.toList.drop i).take (j - i) := by
  rw [ByteArray.data_extract, Array.toList_extract]

set_option maxHeartbeats 1000000 in
theorem number_any (R : Nat) (T : ByteArray) (p u : Nat) (c : UInt8) (rest : List UInt8) (w : World) (h : Rdr w R T p (Lib.decDigits u ++ c :: rest)) (hc : digB c = false) (hu : u ≤ 4096) :
    Calls Tryd.prog 59 #[.pointer (some ⟨R, 0, none⟩)] w fun e w' => e = .returned (.tuple #[.int .i64 (u : Int), .bool true]) ∧ Rdr w' R T (p + (Lib.decDigits u).length) (c :: rest) ∧ w.grownBy w' (some R) := by
  have HR : Hid (Rdr w R T p (Lib.decDigits u ++ c :: rest)) := h
  have c0 := h.two.c0
  have c1 := h.two.c1
  have f1 := h.two.f1
  have hs := h.small
  have hp := h.le
  have z0 : (0 : Int) ≤ (p : Int) := by omega
  have z1 : (p : Int) ≤ (T.size : Int) := by omega
  clear h
  go_enter Tryd.func59, Tryd.ntmps59
  obtain ⟨S, HS0⟩ : ∃ S, Hid (T.extract p T.size = S) := ⟨_, rfl⟩
  have HSL : Hid (S.data.toList = Lib.decDigits u ++ c :: rest) := by
    show _ = _
    rw [← HS0.out, ext_list, ← HR.out.left, List.take_of_length_le]
    rw [List.length_drop]; simp
  have HSS : Hid (S.size = (Lib.decDigits u).length + (rest.length + 1)) := by
    have h1 : S.data.toList.length = S.size := by simp
    show _ = _
    rw [← h1, HSL.out, List.length_append, List.length_cons]
  have hS : S.size ≤ 65536 := by
    have := rdr_len HR.out.left hp
    have h2 := HSS.out
    rw [List.length_append, List.length_cons] at this
    omega
  obtain ⟨n, HN⟩ : ∃ n, Hid ((Lib.decDigits u).length = n) := ⟨_, rfl⟩
  have hn1 : 1 ≤ n := by rw [← HN.out]; exact dec_ne u
  have hnS : n < S.size := by have := HSS.out; rw [HN.out] at this; omega
  have HDN : Hid (dnT S.data.toList = n) := by
    show _ = _
    rw [HSL.out, dnT_app (dec_digs u), HN.out, dnT, hc]; rfl
  obtain ⟨D, HD0⟩ : ∃ D, Hid (S.extract 0 n = D) := ⟨_, rfl⟩
  have HD : Hid (D.data.toList = Lib.decDigits u) := by
    show _ = _
    rw [← HD0.out, ext_list, HSL.out, List.drop_zero, Nat.sub_zero, ← HN.out, List.take_left]
  have hDs : D.size = n := by
    have h1 : D.data.toList.length = D.size := by simp
    rw [← h1, HD.out, HN.out]
  have HK : Hid (∀ W, Calls Tryd.prog 70 #[.string D, .int .i64 10, .int .i64 31] W fun e w' => e = .returned (.tuple #[.int .u64 (u : Int), .nilIface]) ∧ Below W.heap.size W w') :=
    fun W => puo_any D u (by rw [HD.out]; exact dec_digs u) (by omega) (by omega) (by rw [HD.out]; exact dec_val u) (by omega) W
  have HF : Hid (1 < n → ∃ h0 : 0 < S.size, S[0].toNat ≠ 48) := by
    intro h1
    have h2 : 1 ≤ u := by
      rcases Nat.lt_or_ge u 10 with h | h
      · have := HN.out; rw [dec_small h] at this; simp at this; omega
      · omega
    obtain ⟨b, t, e, hb⟩ := dec_head h2
    have h3 := HSL.out
    rw [e] at h3
    obtain ⟨h4, h5⟩ := rdr_get (p := 0) (show S.data.toList.drop 0 = b :: (t ++ c :: rest) by rw [List.drop_zero, h3]; rfl)
    exact ⟨h4, by rw [h5]; exact hb⟩
  have z2 : (n : Int) ≤ (S.size : Int) := by omega
  have z3 : (0 : Int) ≤ (n : Int) := by omega
  clear hDs
  go_wp2_with fail
  go_region
  rw [HS0.out]
  go_wp2_with fail
  refine (digits_any S (by omega) _ n HDN.out).mono ?_
  rintro e w1 ⟨rfl, rfl⟩
  go_wp2_with fail
  rw [HD0.out]
  refine (HK.out _).mono ?_
  rintro e w2 ⟨rfl, hb2⟩
  have HR2 : Hid (Rdr w2 R T p (Lib.decDigits u ++ c :: rest)) := HR.out.at (bt (Below.refl _ _).drew hb2)
  have k0 := HR2.out.two.c0
  have k1 := HR2.out.two.c1
  have k2 := HR2.out.two.f1
  have hbw2 : Below w.heap.size w w2 := bt (Below.refl _ _).drew hb2
  have hpn : p + n ≤ 65536 := by
    have := rdr_len HR.out.left hp
    rw [List.length_append, HN.out] at this
    omega
  have HFIN : Hid (Rdr (w2.setCell ⟨R, 1, none⟩ (.int .i64 ((p : Int) + (n : Int)))) R T (p + (Lib.decDigits u).length) (c :: rest) ∧ w.grownBy (w2.setCell ⟨R, 1, none⟩ (.int .i64 ((p : Int) + (n : Int)))) (some R)) := by
    refine ⟨⟨?_, rdr_next HR.out.left, ?_, hs⟩, gb_set (gb_below hbw2) 1 _⟩
    · rw [HN.out, show (((p + n : Nat) : Int)) = (p : Int) + (n : Int) by omega]
      exact HR2.out.two.set1 _
    · have := rdr_len HR.out.left hp
      rw [List.length_append] at this
      omega
  clear hb2 c0 c1 f1
  by_cases hn2 : 1 < n
  · obtain ⟨h0, hf⟩ := HF.out hn2
    have e1 : (((S[0].toNat : Nat) : Int) == 48) = false := by simp; omega
    have z4 : (1 : Int) < (n : Int) := by omega
    have z5 : (0 : Int) < (S.size : Int) := by omega
    go_wp2_with fail
    go_ret2
    exact ⟨rfl, HFIN.out⟩
  · have z4 : ¬ ((1 : Int) < (n : Int)) := by omega
    go_wp2_with fail
    go_ret2
    exact ⟨rfl, HFIN.out⟩

set_option maxHeartbeats 1000000 in
theorem name_any (R : Nat) (T : ByteArray) (p : Nat) (nm : ByteArray) (c : UInt8) (rest : List UInt8) (w : World) (h : Rdr w R T p (nm.data.toList ++ c :: rest)) (hc : letB c = false) (hn : namB nm.data.toList = true) :
    Calls Tryd.prog 68 #[.pointer (some ⟨R, 0, none⟩)] w fun e w' => e = .returned (.tuple #[.string nm, .bool true]) ∧ Rdr w' R T (p + nm.data.toList.length) (c :: rest) ∧ w.grownBy w' (some R) := by
  have HR : Hid (Rdr w R T p (nm.data.toList ++ c :: rest)) := h
  have c0 := h.two.c0
  have c1 := h.two.c1
  have f1 := h.two.f1
  have hs := h.small
  have hp := h.le
  have z0 : (0 : Int) ≤ (p : Int) := by omega
  have z1 : (p : Int) ≤ (T.size : Int) := by omega
  have HNB : Hid (namB nm.data.toList = true) := hn
  have HNA : Hid (nm.data.toList.all letB = true) := by
    have := hn
    simp only [namB, Bool.and_eq_true] at this
    exact this.2
  have hnl : 1 ≤ nm.data.toList.length ∧ nm.data.toList.length ≤ 32 := by
    have := hn
    simp only [namB, Bool.and_eq_true, decide_eq_true_eq] at this
    exact this.1
  clear h hn
  obtain ⟨S, HS0⟩ : ∃ S, Hid (T.extract p T.size = S) := ⟨_, rfl⟩
  have HSL : Hid (S.data.toList = nm.data.toList ++ c :: rest) := by
    show _ = _
    rw [← HS0.out, ext_list, ← HR.out.left, List.take_of_length_le]
    rw [List.length_drop]; simp
  have HSS : Hid (S.size = nm.data.toList.length + (rest.length + 1)) := by
    have h1 : S.data.toList.length = S.size := by simp
    show _ = _
    rw [← h1, HSL.out, List.length_append, List.length_cons]
  have hS : S.size ≤ 65536 := by
    have := rdr_len HR.out.left hp
    have h2 := HSS.out
    rw [List.length_append, List.length_cons] at this
    omega
  obtain ⟨n, HN⟩ : ∃ n, Hid (nm.data.toList.length = n) := ⟨_, rfl⟩
  rw [HN.out] at hnl
  have hnS : n < S.size := by have := HSS.out; rw [HN.out] at this; omega
  have HDN : Hid (lnT S.data.toList = n) := by
    show _ = _
    rw [HSL.out, lnT_app HNA.out, HN.out, lnT, hc]; rfl
  have HD0 : Hid (S.extract 0 n = nm) := by
    show _ = _
    apply ByteArray.ext
    apply Array.ext'
    rw [ext_list, HSL.out, List.drop_zero, Nat.sub_zero, ← HN.out, List.take_left]
  have hnm : nm.size ≤ 9223372036854775807 := by
    have h1 : nm.data.toList.length = nm.size := by simp
    have := HN.out
    omega
  have z2 : (n : Int) ≤ (S.size : Int) := by omega
  have z3 : (0 : Int) ≤ (n : Int) := by omega
  have z4 : (n : Int) ≤ 32 := by omega
  go_enter Tryd.func68, Tryd.ntmps68
  go_wp2_with fail
  go_region
  rw [HS0.out]
  go_wp2_with fail
  refine (letters_any S (by omega) _ n HDN.out).mono ?_
  rintro e w1 ⟨rfl, rfl⟩
  go_wp2_with fail
  have K60 : ∀ W, Calls Tryd.prog 60 #[.string (S.extract 0 n)] W fun e w' => e = .returned (.bool true) ∧ w' = W := fun W => by rw [HD0.out]; exact named_any nm hnm W true HNB.out
  go_region_held3 (fun _ => True) (trivial) ((go_at_call 60; refine (K60 _).mono ?_; rintro x3 w3 ⟨rfl, rfl⟩))
  have HM : Hid ((p : Int) + min (n : Int) 32 = ((p + nm.data.toList.length : Nat) : Int)) := by show _ = _; rw [HN.out]; omega
  rw [HD0.out]
  go_wp2
  go_ret2
  rw [HM.out]
  refine ⟨rfl, ⟨(HR.out.two.set1 _).below ((Below.refl _ _).drew.drew), rdr_next HR.out.left, ?_, hs⟩, gb_drew (gb_drew (gb_set (gb_refl _ _) 1 _))⟩
  have := rdr_len HR.out.left hp
  rw [List.length_append] at this
  omega
end Go.Proofs.YtkpjjiomfgkobaaDoor
