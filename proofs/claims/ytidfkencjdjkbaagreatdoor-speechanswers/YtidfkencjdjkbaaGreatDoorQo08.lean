import Derived.Test.YtidfkencjdjkbaaGreatDoorQo07
/-
  PACKAGE speech: number, whole.
-/
namespace Go.Proofs.YtidfkencjdjkbaaGreatDoor
open Go.RowKit Sp

theorem number_no1 {w : World} {R P0 : Nat} {ps : List Pc} {m : Value} (h : Rdr w R P0 ps m) (hf : fstD (hd ps) = false) : Calls Tryz.prog 104 #[ptR R] w fun e w' => e = .panicked (chn 2 (hat ps)) ∧ Below w.heap.size w w' := by
  obtain ⟨P, o, n, c, -, -, -, -, -, -, -, -, hlen, -, hR, -⟩ := h.head
  have k1 := next_any h _ rfl
  obtain ⟨x, hx⟩ : ∃ x, hd ps = x := ⟨_, rfl⟩
  rw [hx] at hf hlen k1
  have hnd : runL digB x = 0 := by
    have := run_fst x
    rw [hf] at this
    simp at this
    exact this
  have K2 : Hid (∀ u : World, Calls Tryz.prog 81 #[.string (tx x)] u fun e w' => e = .returned (.int .i64 ((0 : Nat) : Int)) ∧ w' = u) := fun u => digits_any (tx x) (by show x.toArray.size ≤ _; simp; omega) u 0 hnd
  have HR : Hid (Rdr w R P0 ps m) := h
  clear hf hnd hx hlen
  go_enter Tryz.func104, Tryz.ntmps104
  go_wp2_with fail
  refine k1.mono ?_
  rintro e w1 ⟨rfl, rfl⟩
  clear k1
  go_wp2_with fail
  exact num2a (fun _ _ d _ _ h => by cases d <;> exact h) _ _ _ _ _ _ _ _ _ _ _ _ _ _ _ _ _ _ _ _ _ _ _ _ _ _ _ _ _ _ _ _ _ _ _ _ _ _ _ _ _ _ _ _ _ w1 R x 0 (hat ps) rfl (fun W _ => K2.out W) (fun W hW => pmust_no (HR.out.at hW) 2) (fun a W hd hb => ⟨hd, rfl, hb⟩)
theorem number_no2 {w : World} {R P0 : Nat} {ps : List Pc} {m : Value} (h : Rdr w R P0 ps m) (hf : fstD (hd ps) = true) (hz : zeroA (hd ps) = true) : Calls Tryz.prog 104 #[ptR R] w fun e w' => e = .panicked (chn 2 (hat ps)) ∧ Below w.heap.size w w' := by
  obtain ⟨P, o, n, c, -, -, -, -, -, -, -, -, hlen, -, hR, -⟩ := h.head
  have k1 := next_any h _ rfl
  obtain ⟨b, x, hx⟩ : ∃ b x, hd ps = 48 :: b :: x := by
    generalize hd ps = y at hz
    match y, hz with
    | a :: b :: x, hz =>
      simp [zeroA] at hz
      exact ⟨b, x, by rw [hz]⟩
  rw [hx] at hf hlen k1
  obtain ⟨nd, hnd⟩ : ∃ nd, runL digB (48 :: b :: x) = nd := ⟨_, rfl⟩
  have hnd2 : 0 < nd := by rw [← hnd]; exact (run_fst _).2 hf
  have K2 : Hid (∀ u : World, Calls Tryz.prog 81 #[.string (tx (48 :: b :: x))] u fun e w' => e = .returned (.int .i64 (nd : Int)) ∧ w' = u) := fun u => digits_any (tx (48 :: b :: x)) (by show (48 :: b :: x).toArray.size ≤ _; simp at hlen ⊢; omega) u nd hnd
  have HR : Hid (Rdr w R P0 ps m) := h
  clear hf hnd hx hlen hz
  go_enter Tryz.func104, Tryz.ntmps104
  go_wp2_with fail
  refine k1.mono ?_
  rintro e w1 ⟨rfl, rfl⟩
  clear k1
  go_wp2_with fail
  exact num2c (fun _ _ d _ _ h => by cases d <;> exact h) _ _ _ _ _ _ _ _ _ _ _ _ _ _ _ _ _ _ _ _ _ _ _ _ _ _ _ _ _ _ _ _ _ _ _ _ _ _ _ _ _ _ _ _ _ w1 R b x nd (hat ps) hnd2 (fun W _ => K2.out W) (fun W hW => pmust_no (HR.out.at hW) 2) (fun a W hd hb => ⟨hd, rfl, hb⟩)
theorem number_no3 {w : World} {R P0 : Nat} {ps : List Pc} {m : Value} (h : Rdr w R P0 ps m) (hf : fstD (hd ps) = true) (hz : zeroA (hd ps) = false) (hv : 1048576 < valN (hd ps)) (hG : Glo w) : Calls Tryz.prog 104 #[ptR R] w fun e w' => e = .panicked (chn 3 (hat ps)) ∧ Below w.heap.size w w' := by
  have hne : hd ps ≠ [] := by intro e; rw [e] at hf; simp [fstD] at hf
  have hdg : (hd ps).all digB = true := by
    obtain ⟨p, r, rfl⟩ := List.exists_cons_of_ne_nil h.f.ne
    exact h.d p (by simp) hf
  obtain ⟨P, o, n, c, -, -, -, -, -, -, -, -, hlen, -, hR, -⟩ := h.head
  have k1 := next_any h _ rfl
  obtain ⟨x, hx⟩ : ∃ x, hd ps = x := ⟨_, rfl⟩
  rw [hx] at hf hz hv hdg hlen k1
  have hat2 := atoi_val x hf hdg
  obtain ⟨nd, hnd⟩ : ∃ nd, runL digB x = nd := ⟨_, rfl⟩
  have k2 := fun u : World => digits_any (tx x) (by show x.toArray.size ≤ _; simp; omega) u nd hnd
  have hnd2 : (0 : Int) < (nd : Int) := by have := (run_fst x).2 hf; omega
  have hnd3 : 0 < nd := by omega
  have hnd4 : decide (0 < nd) = true := by simpa using hnd3
  have HR : Hid (Rdr w R P0 ps m) := h
  obtain ⟨V, hV⟩ : ∃ V, valN x = V := ⟨_, rfl⟩
  rw [hV] at hv hat2
  have K4 : Hid (∀ u : World, Glo u → Calls Tryz.prog 117 #[.string (tx x)] u fun e w' => (∃ v y, ¬ v ≤ 1048576 ∧ e = .returned (.tuple #[.int .i64 v, y]) ∧ (y = .nilIface ∨ ∃ z, y = .iface 167 z)) ∧ Below u.heap.size u w') := fun u hu => by
    by_cases hc : V < 9223372036854775808
    · rw [if_pos hc] at hat2
      refine (Tryz.strconv_Atoi_ok (tx x) (by show x.toArray.size ≤ _; simp; omega) (V : Int) hat2 u).mono ?_
      rintro e w4 ⟨rfl, hw4⟩
      refine ⟨⟨_, _, by omega, rfl, .inl rfl⟩, ?_⟩
      rcases hw4 with rfl | ⟨t, rfl⟩
      · exact Below.refl _ _
      · exact Lib.bytesWorld_below _ _ _
    · rw [if_neg hc] at hat2
      obtain ⟨ev, h1, h2⟩ := hu.er
      refine (Tryz.strconv_Atoi_range (tx x) (by show x.toArray.size ≤ _; simp; omega) hat2 ev u h1 h2).mono ?_
      rintro e w4 ⟨N, rfl, _, _, hb⟩
      refine ⟨⟨_, _, ?_, rfl, .inr ⟨_, rfl⟩⟩, hb⟩
      show ¬ Lib.atoiSat x ≤ 1048576
      have hx45 : ¬ x.head?.map (·.toNat) = some 45 := by
        cases x with
        | nil => simp
        | cons a r =>
          have hd0 : digB a = true := hf
          simp only [digB, Bool.and_eq_true, decide_eq_true_eq] at hd0
          simp
          omega
      rw [Lib.atoiSat, if_neg hx45]
      omega
  have HGL : Hid (Glo w) := hG
  obtain ⟨a, r, rfl⟩ : ∃ a r, x = a :: r := by
    cases x with
    | nil => exact absurd hf (by decide)
    | cons a r => exact ⟨a, r, rfl⟩
  have hcs : a.toNat ≠ 48 ∨ (a.toNat = 48 ∧ r = []) := by
    by_cases c : a.toNat = 48
    · right
      refine ⟨c, ?_⟩
      cases r with
      | nil => rfl
      | cons b r' =>
        have c2 : a = 48 := UInt8.toNat_inj.1 c
        rw [c2] at hz
        exact absurd hz (by simp [zeroA])
    · exact .inl c
  clear hdg hf hnd hz hV hat2 hx hne hlen hv hG
  go_enter Tryz.func104, Tryz.ntmps104
  go_wp2_with fail
  refine k1.mono ?_
  rintro e w1 ⟨rfl, rfl⟩
  clear k1
  have e0 : ∀ h, (tx (a :: r))[0]'h = a := fun _ => rfl
  rcases hcs with hc | ⟨hc, rfl⟩
  · have hc2 : ¬ (a.toNat : Int) = 48 := by omega
    have hc3 : ((a.toNat : Int) == 48) = false := by simpa using hc2
    have hc4 : ((a.toNat : Int) != 48) = true := by simpa using hc2
    go_wp2_with fail
    go_quiet ((first | (go_at_call 81; refine Calls.quiet_of_same (k2 _)) | (go_at_call 23; refine Calls.quiet_of_same (pmust_ok (HR.out.at (below_drewN (Below.refl _ _) _)) 2))))
    have HB3 : Hid (Below w1.heap.size w1 (w1.drewN nq)) := below_drewN (Below.refl _ _) _
    generalize w1.drewN nq = w3 at HB3 ⊢
    have k5 := K4.out w3 (HGL.out.at HB3.out)
    go_wp2_with fail
    refine k5.mono ?_
    rintro e w4 ⟨⟨v, y, hvy, rfl, hy⟩, hb4⟩
    have HB4 : Hid (Below w1.heap.size w1 w4) := bt HB3.out hb4
    have HR4 : Hid (Rdr w4 R P0 ps m) := HR.out.at HB4.out
    clear k5
    rcases hy with rfl | ⟨z, rfl⟩
    · go_wp2_with fail
      exact num4a (fun _ _ d _ _ h => by cases d <;> exact h) _ _ _ _ _ _ _ _ _ _ _ _ _ _ _ _ _ _ _ _ _ _ _ _ _ _ _ _ _ _ _ _ _ _ _ _ _ _ _ _ _ _ _ _ w4 R v (hat ps) (by omega) (fun W hW => pmust_no (HR4.out.at hW) 3) (fun a W hd hb => ⟨hd, rfl, bt HB4.out hb⟩)
    · go_wp2_with fail
      exact num4b (fun _ _ d _ _ h => by cases d <;> exact h) _ _ _ _ _ _ _ _ _ _ _ _ _ _ _ _ _ _ _ _ _ _ _ _ _ _ _ _ _ _ _ _ _ _ _ _ _ _ _ _ _ _ _ _ w4 R v z (hat ps) (fun W hW => pmust_no (HR4.out.at hW) 3) (fun a W hd hb => ⟨hd, rfl, bt HB4.out hb⟩)
  · have hc2 : (a.toNat : Int) = 48 := by omega
    have hc3 : ((a.toNat : Int) == 48) = true := by simpa using hc2
    have hc4 : ((a.toNat : Int) != 48) = false := by simpa using hc2
    go_wp2_with fail
    go_quiet ((first | (go_at_call 81; refine Calls.quiet_of_same (k2 _)) | (go_at_call 23; refine Calls.quiet_of_same (pmust_ok (HR.out.at (below_drewN (Below.refl _ _) _)) 2))))
    have HB3 : Hid (Below w1.heap.size w1 (w1.drewN nq)) := below_drewN (Below.refl _ _) _
    generalize w1.drewN nq = w3 at HB3 ⊢
    have k5 := K4.out w3 (HGL.out.at HB3.out)
    go_wp2_with fail
    refine k5.mono ?_
    rintro e w4 ⟨⟨v, y, hvy, rfl, hy⟩, hb4⟩
    have HB4 : Hid (Below w1.heap.size w1 w4) := bt HB3.out hb4
    have HR4 : Hid (Rdr w4 R P0 ps m) := HR.out.at HB4.out
    clear k5
    rcases hy with rfl | ⟨z, rfl⟩
    · go_wp2_with fail
      exact num4a (fun _ _ d _ _ h => by cases d <;> exact h) _ _ _ _ _ _ _ _ _ _ _ _ _ _ _ _ _ _ _ _ _ _ _ _ _ _ _ _ _ _ _ _ _ _ _ _ _ _ _ _ _ _ _ _ w4 R v (hat ps) (by omega) (fun W hW => pmust_no (HR4.out.at hW) 3) (fun a W hd hb => ⟨hd, rfl, bt HB4.out hb⟩)
    · go_wp2_with fail
      exact num4b (fun _ _ d _ _ h => by cases d <;> exact h) _ _ _ _ _ _ _ _ _ _ _ _ _ _ _ _ _ _ _ _ _ _ _ _ _ _ _ _ _ _ _ _ _ _ _ _ _ _ _ _ _ _ _ _ w4 R v z (hat ps) (fun W hW => pmust_no (HR4.out.at hW) 3) (fun a W hd hb => ⟨hd, rfl, bt HB4.out hb⟩)
/-- a number, or what is wrong with it -/
theorem number_any {w : World} {R P0 : Nat} {ps : List Pc} {m : Value} (h : Rdr w R P0 ps m) (hG : Glo w) (r : PR Int) (hr : numP ps = r) : Calls Tryz.prog 104 #[ptR R] w fun e w' => (match r with | .ok (n, qs) => e = .returned (.int .i64 n) ∧ Rdr w' R P0 qs m | .error (c, a) => e = .panicked (chn c a)) ∧ w.grownBy w' (some R) := by
  unfold numP at hr
  by_cases h1 : fstD (hd ps) = true
  · by_cases h2 : zeroA (hd ps) = false
    · rw [if_pos ⟨h1, h2⟩] at hr
      by_cases h3 : valN (hd ps) ≤ 1048576
      · rw [if_pos h3] at hr
        subst hr
        exact (number_ok h h1 h2 h3).mono fun e w' k => ⟨⟨k.1, k.2.1⟩, k.2.2⟩
      · rw [if_neg h3] at hr
        subst hr
        exact (number_no3 h h1 h2 (by omega) hG).mono fun e w' k => ⟨k.1, gb_below k.2⟩
    · rw [if_neg (fun c => h2 c.2)] at hr
      subst hr
      exact (number_no2 h h1 (by simpa using h2)).mono fun e w' k => ⟨k.1, gb_below k.2⟩
  · rw [if_neg (fun c => h1 c.1)] at hr
    subst hr
    exact (number_no1 h (by simpa using h1)).mono fun e w' k => ⟨k.1, gb_below k.2⟩
end Go.Proofs.YtidfkencjdjkbaaGreatDoor
