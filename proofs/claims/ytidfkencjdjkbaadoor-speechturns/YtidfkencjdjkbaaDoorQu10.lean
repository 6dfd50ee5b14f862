import Derived.Test.YtidfkencjdjkbaaDoorQu08
import Derived.Test.YtidfkencjdjkbaaDoorQu09
import Derived.Lib.AtoiErrMem
/-
  PACKAGE speech: the tests' signs, one piece's length.
-/
namespace Go.Proofs.YtidfkencjdjkbaaDoor
open Go.RowKit Sp

def sgs : List By := [[], [61], [60], [60, 61], [62], [62, 61], [60, 62]]
/-- package variables: the signs of tests, an error -/
structure Glo (w : World) : Prop where
  sg : ∀ (i : Nat) t, sgs[i]? = some t → w.cell? ⟨0, i, none⟩ = some (.string (tx t))
  er : ∃ ev, w.cell? ⟨4, 0, none⟩ = some ev ∧ (ev = .nilIface ∨ ∃ te pe, ev = .iface te pe)
  sz : 5 ≤ w.heap.size
theorem Glo.gb {w w' : World} {R : Nat} (h : Glo w) (hg : w.grownBy w' (some R)) (hR : 5 ≤ R) : Glo w' := by
  have hz := h.sz
  have hk : ∀ b, b < 5 → w'.heap[b]? = w.heap[b]? := fun b hb => hg.block b (by omega) (by simp; omega)
  refine ⟨fun i t ht => (World.cell?_of_block (w := w) (a := ⟨0, i, none⟩) (hk 0 (by omega))).trans (h.sg i t ht), ?_, Nat.le_trans h.sz hg.size⟩
  obtain ⟨ev, h1, h2⟩ := h.er
  exact ⟨ev, (World.cell?_of_block (w := w) (a := ⟨4, 0, none⟩) (hk 4 (by omega))).trans h1, h2⟩
theorem Glo.at {w w' : World} (h : Glo w) (hb : Below w.heap.size w w') : Glo w' := h.gb (R := w.heap.size) (gb_below hb) h.sz
theorem sgs_dng (x : By) (i : Nat) (t : By) (h : sgs[i]? = some t) (he : t = x) : dng x = i := by
  subst he
  match i, h with
  | 0, h => cases h; decide
  | 1, h => cases h; decide
  | 2, h => cases h; decide
  | 3, h => cases h; decide
  | 4, h => cases h; decide
  | 5, h => cases h; decide
  | 6, h => cases h; decide
  | n + 7, h => simp [sgs] at h
theorem dng_none (x : By) (h : ∀ (i : Nat) t, sgs[i]? = some t → t ≠ x) : dng x = 0 := by
  have h1 := h 1 _ rfl
  have h2 := h 2 _ rfl
  have h3 := h 3 _ rfl
  have h4 := h 4 _ rfl
  have h5 := h 5 _ rfl
  have h6 := h 6 _ rfl
  simp [dng, sigs, h1.symm, h2.symm, h3.symm, h4.symm, h5.symm, h6.symm]
theorem ix0 (u : World) : (Instr.index 108 (.agg #[.string (tx []), .string (tx [61]), .string (tx [60]), .string (tx [60, 61]), .string (tx [62]), .string (tx [62, 61]), .string (tx [60, 62])]) (.int .i64 0)).run Tryd.prog u = .ok (.string (tx [])) u := by kernel_rfl
theorem ix1 (u : World) : (Instr.index 108 (.agg #[.string (tx []), .string (tx [61]), .string (tx [60]), .string (tx [60, 61]), .string (tx [62]), .string (tx [62, 61]), .string (tx [60, 62])]) (.int .i64 1)).run Tryd.prog u = .ok (.string (tx [61])) u := by kernel_rfl
theorem ix2 (u : World) : (Instr.index 108 (.agg #[.string (tx []), .string (tx [61]), .string (tx [60]), .string (tx [60, 61]), .string (tx [62]), .string (tx [62, 61]), .string (tx [60, 62])]) (.int .i64 2)).run Tryd.prog u = .ok (.string (tx [60])) u := by kernel_rfl
theorem ix3 (u : World) : (Instr.index 108 (.agg #[.string (tx []), .string (tx [61]), .string (tx [60]), .string (tx [60, 61]), .string (tx [62]), .string (tx [62, 61]), .string (tx [60, 62])]) (.int .i64 3)).run Tryd.prog u = .ok (.string (tx [60, 61])) u := by kernel_rfl
theorem ix4 (u : World) : (Instr.index 108 (.agg #[.string (tx []), .string (tx [61]), .string (tx [60]), .string (tx [60, 61]), .string (tx [62]), .string (tx [62, 61]), .string (tx [60, 62])]) (.int .i64 4)).run Tryd.prog u = .ok (.string (tx [62])) u := by kernel_rfl
theorem ix5 (u : World) : (Instr.index 108 (.agg #[.string (tx []), .string (tx [61]), .string (tx [60]), .string (tx [60, 61]), .string (tx [62]), .string (tx [62, 61]), .string (tx [60, 62])]) (.int .i64 5)).run Tryd.prog u = .ok (.string (tx [62, 61])) u := by kernel_rfl
theorem ix6 (u : World) : (Instr.index 108 (.agg #[.string (tx []), .string (tx [61]), .string (tx [60]), .string (tx [60, 61]), .string (tx [62]), .string (tx [62, 61]), .string (tx [60, 62])]) (.int .i64 6)).run Tryd.prog u = .ok (.string (tx [60, 62])) u := by kernel_rfl
set_option maxRecDepth 100000 in
theorem doing_any {w : World} (h : Glo w) (x : By) : Calls Tryd.prog 97 #[.string (tx x)] w fun e w' => e = .returned (.int .i64 (dng x : Int)) ∧ w' = w := by
  have c0 := h.sg 0 _ rfl
  have c1 := h.sg 1 _ rfl
  have c2 := h.sg 2 _ rfl
  have c3 := h.sg 3 _ rfl
  have c4 := h.sg 4 _ rfl
  have c5 := h.sg 5 _ rfl
  have c6 := h.sg 6 _ rfl
  go_enter Tryd.func97, Tryd.ntmps97
  go_wp2
  clear c0 c1 c2 c3 c4 c5 c6
  go_loopw [6] (fun iv wr => ∃ i : Nat, iv = .int .i64 (i : Int) ∧ i ≤ 7 ∧ Hid (∀ (j : Nat) t, j < i → sgs[j]? = some t → t ≠ x) ∧ wr = w) (fun iv _ => 7 - (intOf iv).toNat)
  case atStart => exact ⟨0, rfl, by omega, fun j t hj => by omega, rfl⟩
  case round =>
    obtain ⟨i, rfl, hi, HI, rfl⟩ := hrel
    by_cases h7 : i = 7
    · subst h7
      have HD : Hid (dng x = 0) := dng_none x (fun j t ht => HI.out j t (by have := (List.getElem?_eq_some_iff.1 ht).1; simp [sgs] at this; omega) ht)
      go_wp2
      go_ret
      exact ⟨by rw [HD.out]; rfl, rfl⟩
    rcases (show i = 0 ∨ i = 1 ∨ i = 2 ∨ i = 3 ∨ i = 4 ∨ i = 5 ∨ i = 6 by omega) with rfl | rfl | rfl | rfl | rfl | rfl | rfl
    · have hix := ix0
      by_cases he : ([] : By) = x
      · have q := eqs [] x true (by simpa using he)
        have q2 : (([] : By) == x) = true := by rw [by_beq]; simpa using he
        have HD : Hid (dng x = 0) := sgs_dng x 0 _ rfl he
        clear he
        go_wp2
        go_ret
        exact ⟨by rw [HD.out]; rfl, rfl⟩
      · have q := eqs [] x false (by simpa using he)
        have q2 : (([] : By) == x) = false := by rw [by_beq]; simpa using he
        have HN : Hid (∀ (j : Nat) t, j < 1 → sgs[j]? = some t → t ≠ x) := fun j t hj ht => by
          by_cases c : j < 0
          · exact HI.out j t c ht
          · obtain rfl : j = 0 := by omega
            cases ht
            exact he
        clear he
        go_wp2
        go_roundw
        case rel => exact ⟨1, by go_num, by omega, HN, trivial⟩
        case measure => simp [intOf]
    · have hix := ix1
      by_cases he : ([61] : By) = x
      · have q := eqs [61] x true (by simpa using he)
        have q2 : (([61] : By) == x) = true := by rw [by_beq]; simpa using he
        have HD : Hid (dng x = 1) := sgs_dng x 1 _ rfl he
        clear he
        go_wp2
        go_ret
        exact ⟨by rw [HD.out]; rfl, rfl⟩
      · have q := eqs [61] x false (by simpa using he)
        have q2 : (([61] : By) == x) = false := by rw [by_beq]; simpa using he
        have HN : Hid (∀ (j : Nat) t, j < 2 → sgs[j]? = some t → t ≠ x) := fun j t hj ht => by
          by_cases c : j < 1
          · exact HI.out j t c ht
          · obtain rfl : j = 1 := by omega
            cases ht
            exact he
        clear he
        go_wp2
        go_roundw
        case rel => exact ⟨2, by go_num, by omega, HN, trivial⟩
        case measure => simp [intOf]
    · have hix := ix2
      by_cases he : ([60] : By) = x
      · have q := eqs [60] x true (by simpa using he)
        have q2 : (([60] : By) == x) = true := by rw [by_beq]; simpa using he
        have HD : Hid (dng x = 2) := sgs_dng x 2 _ rfl he
        clear he
        go_wp2
        go_ret
        exact ⟨by rw [HD.out]; rfl, rfl⟩
      · have q := eqs [60] x false (by simpa using he)
        have q2 : (([60] : By) == x) = false := by rw [by_beq]; simpa using he
        have HN : Hid (∀ (j : Nat) t, j < 3 → sgs[j]? = some t → t ≠ x) := fun j t hj ht => by
          by_cases c : j < 2
          · exact HI.out j t c ht
          · obtain rfl : j = 2 := by omega
            cases ht
            exact he
        clear he
        go_wp2
        go_roundw
        case rel => exact ⟨3, by go_num, by omega, HN, trivial⟩
        case measure => simp [intOf]
    · have hix := ix3
      by_cases he : ([60, 61] : By) = x
      · have q := eqs [60, 61] x true (by simpa using he)
        have q2 : (([60, 61] : By) == x) = true := by rw [by_beq]; simpa using he
        have HD : Hid (dng x = 3) := sgs_dng x 3 _ rfl he
        clear he
        go_wp2
        go_ret
        exact ⟨by rw [HD.out]; rfl, rfl⟩
      · have q := eqs [60, 61] x false (by simpa using he)
        have q2 : (([60, 61] : By) == x) = false := by rw [by_beq]; simpa using he
        have HN : Hid (∀ (j : Nat) t, j < 4 → sgs[j]? = some t → t ≠ x) := fun j t hj ht => by
          by_cases c : j < 3
          · exact HI.out j t c ht
          · obtain rfl : j = 3 := by omega
            cases ht
            exact he
        clear he
        go_wp2
        go_roundw
        case rel => exact ⟨4, by go_num, by omega, HN, trivial⟩
        case measure => simp [intOf]
    · have hix := ix4
      by_cases he : ([62] : By) = x
      · have q := eqs [62] x true (by simpa using he)
        have q2 : (([62] : By) == x) = true := by rw [by_beq]; simpa using he
        have HD : Hid (dng x = 4) := sgs_dng x 4 _ rfl he
        clear he
        go_wp2
        go_ret
        exact ⟨by rw [HD.out]; rfl, rfl⟩
      · have q := eqs [62] x false (by simpa using he)
        have q2 : (([62] : By) == x) = false := by rw [by_beq]; simpa using he
        have HN : Hid (∀ (j : Nat) t, j < 5 → sgs[j]? = some t → t ≠ x) := fun j t hj ht => by
          by_cases c : j < 4
          · exact HI.out j t c ht
          · obtain rfl : j = 4 := by omega
            cases ht
            exact he
        clear he
        go_wp2
        go_roundw
        case rel => exact ⟨5, by go_num, by omega, HN, trivial⟩
        case measure => simp [intOf]
    · have hix := ix5
      by_cases he : ([62, 61] : By) = x
      · have q := eqs [62, 61] x true (by simpa using he)
        have q2 : (([62, 61] : By) == x) = true := by rw [by_beq]; simpa using he
        have HD : Hid (dng x = 5) := sgs_dng x 5 _ rfl he
        clear he
        go_wp2
        go_ret
        exact ⟨by rw [HD.out]; rfl, rfl⟩
      · have q := eqs [62, 61] x false (by simpa using he)
        have q2 : (([62, 61] : By) == x) = false := by rw [by_beq]; simpa using he
        have HN : Hid (∀ (j : Nat) t, j < 6 → sgs[j]? = some t → t ≠ x) := fun j t hj ht => by
          by_cases c : j < 5
          · exact HI.out j t c ht
          · obtain rfl : j = 5 := by omega
            cases ht
            exact he
        clear he
        go_wp2
        go_roundw
        case rel => exact ⟨6, by go_num, by omega, HN, trivial⟩
        case measure => simp [intOf]
    · have hix := ix6
      by_cases he : ([60, 62] : By) = x
      · have q := eqs [60, 62] x true (by simpa using he)
        have q2 : (([60, 62] : By) == x) = true := by rw [by_beq]; simpa using he
        have HD : Hid (dng x = 6) := sgs_dng x 6 _ rfl he
        clear he
        go_wp2
        go_ret
        exact ⟨by rw [HD.out]; rfl, rfl⟩
      · have q := eqs [60, 62] x false (by simpa using he)
        have q2 : (([60, 62] : By) == x) = false := by rw [by_beq]; simpa using he
        have HN : Hid (∀ (j : Nat) t, j < 7 → sgs[j]? = some t → t ≠ x) := fun j t hj ht => by
          by_cases c : j < 6
          · exact HI.out j t c ht
          · obtain rfl : j = 6 := by omega
            cases ht
            exact he
        clear he
        go_wp2
        go_roundw
        case rel => exact ⟨7, by go_num, by omega, HN, trivial⟩
        case measure => simp [intOf]
end Go.Proofs.YtidfkencjdjkbaaDoor

/-
  PACKAGE speech: numbers.
-/
namespace Go.Proofs.YtidfkencjdjkbaaDoor
open Go.RowKit Sp

theorem fold_ge : ∀ (l : By) (a : Nat), a ≤ l.foldl (fun n c => n * 10 + (c.toNat - 48)) a
  | [], a => Nat.le_refl _
  | c :: r, a => by
    have := fold_ge r (a * 10 + (c.toNat - 48))
    simp only [List.foldl_cons]
    omega
theorem parse_val : ∀ (l : By) (a : Nat), l.all digB = true → a < 18446744073709551616 → Lib.parseUint10 a l = if l.foldl (fun n c => n * 10 + (c.toNat - 48)) a < 18446744073709551616 then .ok (l.foldl (fun n c => n * 10 + (c.toNat - 48)) a) else .range
  | [], a, _, ha => by simp [Lib.parseUint10, ha]
  | c :: r, a, h, ha => by
    simp only [List.all_cons, Bool.and_eq_true] at h
    obtain ⟨h1, h2⟩ := h
    simp only [digB, Bool.and_eq_true, decide_eq_true_eq] at h1
    have hg := fold_ge r (a * 10 + (c.toNat - 48))
    obtain ⟨V, hV⟩ : ∃ V, r.foldl (fun n c => n * 10 + (c.toNat - 48)) (a * 10 + (c.toNat - 48)) = V := ⟨_, rfl⟩
    have ih := fun h => parse_val r (a * 10 + (c.toNat - 48)) h2 h
    have e : (c :: r).foldl (fun n c => n * 10 + (c.toNat - 48)) a = V := hV
    rw [e]
    rw [hV] at ih hg
    unfold Lib.parseUint10
    rw [if_pos h1]
    by_cases c1 : 1844674407370955162 ≤ a
    · rw [if_pos c1, if_neg (by omega)]
    · rw [if_neg c1]
      by_cases c2 : 18446744073709551616 ≤ a * 10 + (c.toNat - 48)
      · rw [if_pos c2, if_neg (by omega)]
      · rw [if_neg c2]
        exact ih (by omega)
theorem atoi_val (x : By) (hx : fstD x = true) (h : x.all digB = true) : Lib.atoiAll x = if valN x < 9223372036854775808 then .ok (valN x : Int) else .range := by
  match x, hx with
  | c :: r, hx =>
    have hc : digB c = true := hx
    simp only [digB, Bool.and_eq_true, decide_eq_true_eq] at hc
    have hp := parse_val (c :: r) 0 h (by omega)
    have hv : (c :: r).foldl (fun n c => n * 10 + (c.toNat - 48)) 0 = valN (c :: r) := rfl
    rw [hv] at hp
    have h1 : ¬ (c.toNat = 43 ∨ c.toNat = 45) := by omega
    have h2 : ¬ c.toNat = 45 := by omega
    simp only [Lib.atoiAll]
    rw [if_neg h1]
    simp only [Lib.parseMag, hp]
    by_cases c1 : valN (c :: r) < 18446744073709551616
    · rw [if_pos c1]
      simp only [h2, List.cons_ne_nil, not_false_iff, true_and, if_false, false_and]
      by_cases c2 : valN (c :: r) < 9223372036854775808
      · rw [if_pos c2, if_neg (by omega)]
      · rw [if_neg c2, if_pos (by omega)]
    · rw [if_neg c1]
      simp
      omega
theorem run_fst (x : By) : (0 < runL digB x) ↔ fstD x = true := by
  match x with
  | [] => simp [runL, fstD]
  | c :: r =>
    simp only [runL, fstD]
    by_cases h : digB c = true
    · simp [h]
    · simp [h]
/-- a number that can be told -/
theorem number_ok {w : World} {R P0 : Nat} {ps : List Pc} {m : Value} (h : Rdr w R P0 ps m) (hf : fstD (hd ps) = true) (hz : zeroA (hd ps) = false) (hv : valN (hd ps) ≤ 1048576) : Calls Tryd.prog 66 #[ptR R] w fun e w' => e = .returned (.int .i64 (valN (hd ps) : Int)) ∧ Rdr w' R P0 ps.tail m ∧ w.grownBy w' (some R) := by
  have hne : hd ps ≠ [] := by intro e; rw [e] at hf; simp [fstD] at hf
  have hdg : (hd ps).all digB = true := by
    obtain ⟨p, r, rfl⟩ := List.exists_cons_of_ne_nil h.f.ne
    exact h.d p (by simp) hf
  obtain ⟨P, o, n, c, -, -, -, -, -, -, -, -, hlen, -, hR, -⟩ := h.head
  have k1 := next_any h _ rfl
  obtain ⟨x, hx⟩ : ∃ x, hd ps = x := ⟨_, rfl⟩
  rw [hx] at hf hz hv hdg hlen k1 ⊢
  have hat2 := atoi_val x hf hdg
  rw [if_pos (by omega)] at hat2
  obtain ⟨nd, hnd⟩ : ∃ nd, runL digB x = nd := ⟨_, rfl⟩
  have k2 := fun u : World => digits_any (tx x) (by show x.toArray.size ≤ _; simp; omega) u nd hnd
  have hnd2 : (0 : Int) < (nd : Int) := by have := (run_fst x).2 hf; omega
  have hnd3 : 0 < nd := by omega
  have hnd4 : decide (0 < nd) = true := by simpa using hnd3
  have HR : Hid (Rdr w R P0 ps m) := h
  have HX : Hid (hd ps = x) := hx
  have HNE : Hid (hd ps ≠ []) := hne
  obtain ⟨V, hV⟩ : ∃ V, valN x = V := ⟨_, rfl⟩
  rw [hV] at hv hat2 ⊢
  have k4 := fun u : World => Tryd.strconv_Atoi_ok (tx x) (by show x.toArray.size ≤ _; simp; omega) (V : Int) hat2 u
  obtain ⟨a, r, rfl⟩ : ∃ a r, x = a :: r := by
    cases x with
    | nil => exact absurd hf (by decide)
    | cons a r => exact ⟨a, r, rfl⟩
  have hv2 : (V : Int) ≤ 1048576 := by omega
  have hcs : a.toNat ≠ 48 ∨ (a.toNat = 48 ∧ r = []) := by
    by_cases c : a.toNat = 48
    · right
      refine ⟨c, ?_⟩
      cases r with
      | nil => rfl
      | cons b r' =>
        have c2 : a = 48 := UInt8.toNat_inj.1 c
        rw [c2] at hz
        exact absurd hz (by simp [zeroA])
    · exact .inl c
  clear hdg hf hnd hz hV hat2 hx hne hlen
  go_enter Tryd.func66, Tryd.ntmps66
  go_wp2_with fail
  refine k1.mono ?_
  rintro e w1 ⟨rfl, rfl⟩
  clear k1
  have e0 : ∀ h, (tx (a :: r))[0]'h = a := fun _ => rfl
  rcases hcs with hc | ⟨hc, rfl⟩
  · have hc2 : ¬ (a.toNat : Int) = 48 := by omega
    have hc3 : ((a.toNat : Int) == 48) = false := by simpa using hc2
    have hc4 : ((a.toNat : Int) != 48) = true := by simpa using hc2
    go_wp2_with fail
    go_quiet ((first | (go_at_call 43; refine Calls.quiet_of_same (k2 _)) | (go_at_call 16; refine Calls.quiet_of_same (pmust_ok (HR.out.at (below_drewN (Below.refl _ _) _)) 2))))
    have HB3 : Hid (Below w1.heap.size w1 (w1.drewN nq)) := below_drewN (Below.refl _ _) _
    generalize w1.drewN nq = w3 at HB3 ⊢
    have k5 := k4 w3
    go_wp2_with fail
    refine k5.mono ?_
    rintro e w4 ⟨rfl, hw4⟩
    have HB4 : Hid (Below w1.heap.size w1 w4) := by
      rcases hw4 with rfl | ⟨t, rfl⟩
      · exact HB3.out
      · exact bt HB3.out (Lib.bytesWorld_below _ _ _)
    have HR4 : Hid (Rdr w4 R P0 ps m) := HR.out.at HB4.out
    clear k5 hw4 k4
    go_wp2_with fail
    go_quiet ((go_at_call 16; refine Calls.quiet_of_same (pmust_ok (HR4.out.at (below_drewN (Below.refl _ _) _)) 3)))
    have HB5 : Hid (Below w1.heap.size w1 (w4.drewN nq)) := bt HB4.out (below_drewN (Below.refl _ _) _)
    generalize w4.drewN nq = w5 at HB5 ⊢
    have k6 := step_any (HR.out.at HB5.out) HNE.out
    go_wp2_with fail
    refine k6.mono ?_
    rintro e w6 ⟨rfl, h6, hg6⟩
    go_wp2
    go_ret
    exact ⟨rfl, h6, gb_trans (gb_below HB5.out) hg6⟩
  · have hc2 : (a.toNat : Int) = 48 := by omega
    have hc3 : ((a.toNat : Int) == 48) = true := by simpa using hc2
    have hc4 : ((a.toNat : Int) != 48) = false := by simpa using hc2
    go_wp2_with fail
    go_quiet ((first | (go_at_call 43; refine Calls.quiet_of_same (k2 _)) | (go_at_call 16; refine Calls.quiet_of_same (pmust_ok (HR.out.at (below_drewN (Below.refl _ _) _)) 2))))
    have HB3 : Hid (Below w1.heap.size w1 (w1.drewN nq)) := below_drewN (Below.refl _ _) _
    generalize w1.drewN nq = w3 at HB3 ⊢
    have k5 := k4 w3
    go_wp2_with fail
    refine k5.mono ?_
    rintro e w4 ⟨rfl, hw4⟩
    have HB4 : Hid (Below w1.heap.size w1 w4) := by
      rcases hw4 with rfl | ⟨t, rfl⟩
      · exact HB3.out
      · exact bt HB3.out (Lib.bytesWorld_below _ _ _)
    have HR4 : Hid (Rdr w4 R P0 ps m) := HR.out.at HB4.out
    clear k5 hw4 k4
    go_wp2_with fail
    go_quiet ((go_at_call 16; refine Calls.quiet_of_same (pmust_ok (HR4.out.at (below_drewN (Below.refl _ _) _)) 3)))
    have HB5 : Hid (Below w1.heap.size w1 (w4.drewN nq)) := bt HB4.out (below_drewN (Below.refl _ _) _)
    generalize w4.drewN nq = w5 at HB5 ⊢
    have k6 := step_any (HR.out.at HB5.out) HNE.out
    go_wp2_with fail
    refine k6.mono ?_
    rintro e w6 ⟨rfl, h6, hg6⟩
    go_wp2
    go_ret
    exact ⟨rfl, h6, gb_trans (gb_below HB5.out) hg6⟩
end Go.Proofs.YtidfkencjdjkbaaDoor
