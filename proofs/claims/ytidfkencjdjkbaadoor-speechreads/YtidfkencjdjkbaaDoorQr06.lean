import Derived.Test.YtidfkencjdjkbaaDoorQr04
import Derived.Test.YtidfkencjdjkbaaDoorQr05
/-
  PACKAGE speech: the tests' signs, one piece's length.
-/
namespace Go.Proofs.YtidfkencjdjkbaaDoor
open Go.RowKit Sp

def sgs : List By := [[], [61], [60], [60, 61], [62], [62, 61], [60, 62]]
/-- package variables: the signs of tests, an error -/
structure Glo (w : World) : Prop where
  sg : ∀ (i : Nat) t, sgs[i]? = some t → w.cell? ⟨0, i, none⟩ = some (.string (tx t))
  er : ∃ ev, w.cell? ⟨4, 0, none⟩ = some ev ∧ (ev = .nilIface ∨ ∃ te pe, ev = .iface te pe)
  sz : 5 ≤ w.heap.size
theorem Glo.gb {w w' : World} {R : Nat} (h : Glo w) (hg : w.grownBy w' (some R)) (hR : 5 ≤ R) : Glo w' := by
  have hz := h.sz
  have hk : ∀ b, b < 5 → w'.heap[b]? = w.heap[b]? := fun b hb => hg.block b (by omega) (by simp; omega)
  refine ⟨fun i t ht => (World.cell?_of_block (w := w) (a := ⟨0, i, none⟩) (hk 0 (by omega))).trans (h.sg i t ht), ?_, Nat.le_trans h.sz hg.size⟩
  obtain ⟨ev, h1, h2⟩ := h.er
  exact ⟨ev, (World.cell?_of_block (w := w) (a := ⟨4, 0, none⟩) (hk 4 (by omega))).trans h1, h2⟩
theorem Glo.at {w w' : World} (h : Glo w) (hb : Below w.heap.size w w') : Glo w' := h.gb (R := w.heap.size) (gb_below hb) h.sz
theorem sgs_dng (x : By) (i : Nat) (t : By) (h : sgs[i]? = some t) (he : t = x) : dng x = i := by
  subst he
  match i, h with
  | 0, h => cases h; decide
  | 1, h => cases h; decide
  | 2, h => cases h; decide
  | 3, h => cases h; decide
  | 4, h => cases h; decide
  | 5, h => cases h; decide
  | 6, h => cases h; decide
  | n + 7, h => simp [sgs] at h
theorem dng_none (x : By) (h : ∀ (i : Nat) t, sgs[i]? = some t → t ≠ x) : dng x = 0 := by
  have h1 := h 1 _ rfl
  have h2 := h 2 _ rfl
  have h3 := h 3 _ rfl
  have h4 := h 4 _ rfl
  have h5 := h 5 _ rfl
  have h6 := h 6 _ rfl
  simp [dng, sigs, h1.symm, h2.symm, h3.symm, h4.symm, h5.symm, h6.symm]
theorem ix0 (u : World) : (Instr.index 108 (.agg #[.string (tx []), .string (tx [61]), .string (tx [60]), .string (tx [60, 61]), .string (tx [62]), .string (tx [62, 61]), .string (tx [60, 62])]) (.int .i64 0)).run Tryd.prog u = .ok (.string (tx [])) u := by kernel_rfl
theorem ix1 (u : World) : (Instr.index 108 (.agg #[.string (tx []), .string (tx [61]), .string (tx [60]), .string (tx [60, 61]), .string (tx [62]), .string (tx [62, 61]), .string (tx [60, 62])]) (.int .i64 1)).run Tryd.prog u = .ok (.string (tx [61])) u := by kernel_rfl
theorem ix2 (u : World) : (Instr.index 108 (.agg #[.string (tx []), .string (tx [61]), .string (tx [60]), .string (tx [60, 61]), .string (tx [62]), .string (tx [62, 61]), .string (tx [60, 62])]) (.int .i64 2)).run Tryd.prog u = .ok (.string (tx [60])) u := by kernel_rfl
theorem ix3 (u : World) : (Instr.index 108 (.agg #[.string (tx []), .string (tx [61]), .string (tx [60]), .string (tx [60, 61]), .string (tx [62]), .string (tx [62, 61]), .string (tx [60, 62])]) (.int .i64 3)).run Tryd.prog u = .ok (.string (tx [60, 61])) u := by kernel_rfl
theorem ix4 (u : World) : (Instr.index 108 (.agg #[.string (tx []), .string (tx [61]), .string (tx [60]), .string (tx [60, 61]), .string (tx [62]), .string (tx [62, 61]), .string (tx [60, 62])]) (.int .i64 4)).run Tryd.prog u = .ok (.string (tx [62])) u := by kernel_rfl
theorem ix5 (u : World) : (Instr.index 108 (.agg #[.string (tx []), .string (tx [61]), .string (tx [60]), .string (tx [60, 61]), .string (tx [62]), .string (tx [62, 61]), .string (tx [60, 62])]) (.int .i64 5)).run Tryd.prog u = .ok (.string (tx [62, 61])) u := by kernel_rfl
theorem ix6 (u : World) : (Instr.index 108 (.agg #[.string (tx []), .string (tx [61]), .string (tx [60]), .string (tx [60, 61]), .string (tx [62]), .string (tx [62, 61]), .string (tx [60, 62])]) (.int .i64 6)).run Tryd.prog u = .ok (.string (tx [60, 62])) u := by kernel_rfl
set_option maxRecDepth 100000 in
theorem doing_any {w : World} (h : Glo w) (x : By) : Calls Tryd.prog 97 #[.string (tx x)] w fun e w' => e = .returned (.int .i64 (dng x : Int)) ∧ w' = w := by
  have c0 := h.sg 0 _ rfl
  have c1 := h.sg 1 _ rfl
  have c2 := h.sg 2 _ rfl
  have c3 := h.sg 3 _ rfl
  have c4 := h.sg 4 _ rfl
  have c5 := h.sg 5 _ rfl
  have c6 := h.sg 6 _ rfl
  go_enter Tryd.func97, Tryd.ntmps97
  go_wp2
  clear c0 c1 c2 c3 c4 c5 c6
  go_loopw [6] (fun iv wr => ∃ i : Nat, iv = .int .i64 (i : Int) ∧ i ≤ 7 ∧ Hid (∀ (j : Nat) t, j < i → sgs[j]? = some t → t ≠ x) ∧ wr = w) (fun iv _ => 7 - (intOf iv).toNat)
  case atStart => exact ⟨0, rfl, by omega, fun j t hj => by omega, rfl⟩
  case round =>
    obtain ⟨i, rfl, hi, HI, rfl⟩ := hrel
    by_cases h7 : i = 7
    · subst h7
      have HD : Hid (dng x = 0) := dng_none x (fun j t ht => HI.out j t (by have := (List.getElem?_eq_some_iff.1 ht).1; simp [sgs] at this; omega) ht)
      go_wp2
      go_ret
      exact ⟨by rw [HD.out]; rfl, rfl⟩
    rcases (show i = 0 ∨ i = 1 ∨ i = 2 ∨ i = 3 ∨ i = 4 ∨ i = 5 ∨ i = 6 by omega) with rfl | rfl | rfl | rfl | rfl | rfl | rfl
    · have hix := ix0
      by_cases he : ([] : By) = x
      · have q := eqs [] x true (by simpa using he)
        have q2 : (([] : By) == x) = true := by rw [by_beq]; simpa using he
        have HD : Hid (dng x = 0) := sgs_dng x 0 _ rfl he
        clear he
        go_wp2
        go_ret
        exact ⟨by rw [HD.out]; rfl, rfl⟩
      · have q := eqs [] x false (by simpa using he)
        have q2 : (([] : By) == x) = false := by rw [by_beq]; simpa using he
        have HN : Hid (∀ (j : Nat) t, j < 1 → sgs[j]? = some t → t ≠ x) := fun j t hj ht => by
          by_cases c : j < 0
          · exact HI.out j t c ht
          · obtain rfl : j = 0 := by omega
            cases ht
            exact he
        clear he
        go_wp2
        go_roundw
        case rel => exact ⟨1, by go_num, by omega, HN, trivial⟩
        case measure => simp [intOf]
    · have hix := ix1
      by_cases he : ([61] : By) = x
      · have q := eqs [61] x true (by simpa using he)
        have q2 : (([61] : By) == x) = true := by rw [by_beq]; simpa using he
        have HD : Hid (dng x = 1) := sgs_dng x 1 _ rfl he
        clear he
        go_wp2
        go_ret
        exact ⟨by rw [HD.out]; rfl, rfl⟩
      · have q := eqs [61] x false (by simpa using he)
        have q2 : (([61] : By) == x) = false := by rw [by_beq]; simpa using he
        have HN : Hid (∀ (j : Nat) t, j < 2 → sgs[j]? = some t → t ≠ x) := fun j t hj ht => by
          by_cases c : j < 1
          · exact HI.out j t c ht
          · obtain rfl : j = 1 := by omega
            cases ht
            exact he
        clear he
        go_wp2
        go_roundw
        case rel => exact ⟨2, by go_num, by omega, HN, trivial⟩
        case measure => simp [intOf]
    · have hix := ix2
      by_cases he : ([60] : By) = x
      · have q := eqs [60] x true (by simpa using he)
        have q2 : (([60] : By) == x) = true := by rw [by_beq]; simpa using he
        have HD : Hid (dng x = 2) := sgs_dng x 2 _ rfl he
        clear he
        go_wp2
        go_ret
        exact ⟨by rw [HD.out]; rfl, rfl⟩
      · have q := eqs [60] x false (by simpa using he)
        have q2 : (([60] : By) == x) = false := by rw [by_beq]; simpa using he
        have HN : Hid (∀ (j : Nat) t, j < 3 → sgs[j]? = some t → t ≠ x) := fun j t hj ht => by
          by_cases c : j < 2
          · exact HI.out j t c ht
          · obtain rfl : j = 2 := by omega
            cases ht
            exact he
        clear he
        go_wp2
        go_roundw
        case rel => exact ⟨3, by go_num, by omega, HN, trivial⟩
        case measure => simp [intOf]
    · have hix := ix3
      by_cases he : ([60, 61] : By) = x
      · have q := eqs [60, 61] x true (by simpa using he)
        have q2 : (([60, 61] : By) == x) = true := by rw [by_beq]; simpa using he
        have HD : Hid (dng x = 3) := sgs_dng x 3 _ rfl he
        clear he
        go_wp2
        go_ret
        exact ⟨by rw [HD.out]; rfl, rfl⟩
      · have q := eqs [60, 61] x false (by simpa using he)
        have q2 : (([60, 61] : By) == x) = false := by rw [by_beq]; simpa using he
        have HN : Hid (∀ (j : Nat) t, j < 4 → sgs[j]? = some t → t ≠ x) := fun j t hj ht => by
          by_cases c : j < 3
          · exact HI.out j t c ht
          · obtain rfl : j = 3 := by omega
            cases ht
            exact he
        clear he
        go_wp2
        go_roundw
        case rel => exact ⟨4, by go_num, by omega, HN, trivial⟩
        case measure => simp [intOf]
    · have hix := ix4
      by_cases he : ([62] : By) = x
      · have q := eqs [62] x true (by simpa using he)
        have q2 : (([62] : By) == x) = true := by rw [by_beq]; simpa using he
        have HD : Hid (dng x = 4) := sgs_dng x 4 _ rfl he
        clear he
        go_wp2
        go_ret
        exact ⟨by rw [HD.out]; rfl, rfl⟩
      · have q := eqs [62] x false (by simpa using he)
        have q2 : (([62] : By) == x) = false := by rw [by_beq]; simpa using he
        have HN : Hid (∀ (j : Nat) t, j < 5 → sgs[j]? = some t → t ≠ x) := fun j t hj ht => by
          by_cases c : j < 4
          · exact HI.out j t c ht
          · obtain rfl : j = 4 := by omega
            cases ht
            exact he
        clear he
        go_wp2
        go_roundw
        case rel => exact ⟨5, by go_num, by omega, HN, trivial⟩
        case measure => simp [intOf]
    · have hix := ix5
      by_cases he : ([62, 61] : By) = x
      · have q := eqs [62, 61] x true (by simpa using he)
        have q2 : (([62, 61] : By) == x) = true := by rw [by_beq]; simpa using he
        have HD : Hid (dng x = 5) := sgs_dng x 5 _ rfl he
        clear he
        go_wp2
        go_ret
        exact ⟨by rw [HD.out]; rfl, rfl⟩
      · have q := eqs [62, 61] x false (by simpa using he)
        have q2 : (([62, 61] : By) == x) = false := by rw [by_beq]; simpa using he
        have HN : Hid (∀ (j : Nat) t, j < 6 → sgs[j]? = some t → t ≠ x) := fun j t hj ht => by
          by_cases c : j < 5
          · exact HI.out j t c ht
          · obtain rfl : j = 5 := by omega
            cases ht
            exact he
        clear he
        go_wp2
        go_roundw
        case rel => exact ⟨6, by go_num, by omega, HN, trivial⟩
        case measure => simp [intOf]
    · have hix := ix6
      by_cases he : ([60, 62] : By) = x
      · have q := eqs [60, 62] x true (by simpa using he)
        have q2 : (([60, 62] : By) == x) = true := by rw [by_beq]; simpa using he
        have HD : Hid (dng x = 6) := sgs_dng x 6 _ rfl he
        clear he
        go_wp2
        go_ret
        exact ⟨by rw [HD.out]; rfl, rfl⟩
      · have q := eqs [60, 62] x false (by simpa using he)
        have q2 : (([60, 62] : By) == x) = false := by rw [by_beq]; simpa using he
        have HN : Hid (∀ (j : Nat) t, j < 7 → sgs[j]? = some t → t ≠ x) := fun j t hj ht => by
          by_cases c : j < 6
          · exact HI.out j t c ht
          · obtain rfl : j = 6 := by omega
            cases ht
            exact he
        clear he
        go_wp2
        go_roundw
        case rel => exact ⟨7, by go_num, by omega, HN, trivial⟩
        case measure => simp [intOf]
end Go.Proofs.YtidfkencjdjkbaaDoor
