import Derived.Test.YtnoedkebmpfagaaWrh
import Derived.Deep.DeepCutAuto
/-
  The reference's count, number, word at a place.
-/
namespace Go.Proofs.Ytnoedkebmpfagaa
open Go.RowKit Wc

/-- where a reading ends: -1, if it is bad -/
def endP (at' : Int) (len : Nat) (r : By) (f : Bool) : Int := if at' < 0 then -1 else if f then -1 else ((len - r.length : Nat) : Int)
/-- what is told at a place -/
def ctP (t : By) (p : Nat) : Nat × Int := if (ctR (t.drop p)).2.2 then (0, -1) else ((ctR (t.drop p)).1, ((t.length - (ctR (t.drop p)).2.1.length : Nat) : Int))
theorem cnR_mono : ∀ (t : By) (k a : Nat), (cnR k a t).2.1.length ≤ t.length := fun t k a => cnR_len t k a
theorem rcnt_neg (t : By) (w : World) : Calls Try.prog 28 #[.string (tx t), .int .i64 (-1)] w fun e w' => e = .returned (.tuple #[.int .u64 0, .int .i64 (-1)]) ∧ w' = w := by
  go_enter Try.func28, Try.ntmps28
  go_wp2_with fail
  go_loopw [8] (fun iv wr => iv = .int .i64 0 ∧ wr = w) (fun _ _ => 1)
  case atStart => exact ⟨rfl, rfl⟩
  case round =>
    obtain ⟨rfl, rfl⟩ := hrel
    go_wp2
    go_ret2
    exact ⟨rfl, rfl⟩
set_option maxHeartbeats 1000000 in
set_option maxRecDepth 100000 in
theorem rcnt_any (t : By) (ht : t.length ≤ 65536) (p : Nat) (hp : p ≤ t.length) (w : World) (n : Nat) (q : Int) (hq : ctP t p = (n, q)) :
    Calls Try.prog 28 #[.string (tx t), .int .i64 (p : Int)] w fun e w' => e = .returned (.tuple #[.int .u64 (n : Int), .int .i64 q]) ∧ w' = w := by
  have hsz := tx_size t
  obtain ⟨v, r, f, hc⟩ : ∃ v r f, cnR 0 0 (t.drop p) = (v, r, f) := ⟨_, _, _, rfl⟩
  have HQ : Hid (n = (if f then 0 else v) ∧ q = (if f then -1 else ((t.length - r.length : Nat) : Int))) := by
    have h := hq
    unfold ctP ctR at h
    rw [hc] at h
    cases f <;> simp at h <;> exact ⟨by simpa using h.1.symm, by simpa using h.2.symm⟩
  have HC : Hid (cnR 0 0 (t.drop p) = (v, r, f)) := hc
  clear hq hc
  go_enter Try.func28, Try.ntmps28
  go_wp2_with fail
  go_loopw [6, 7, 8] (fun nv bv iv wr => ∃ (i a : Nat), nv = .int .u64 (a : Int) ∧ bv = .int .u64 ((128 ^ i : Nat) : Int) ∧ iv = .int .i64 (i : Int) ∧ i ≤ 9 ∧ p + i ≤ t.length ∧ Hid (a < 128 ^ i) ∧ Hid (cnR i a (t.drop (p + i)) = (v, r, f)) ∧ wr = w) (fun _ _ iv _ => 20 - (intOf iv).toNat)
  case atStart => exact ⟨0, 0, rfl, rfl, rfl, by decide, hp, Nat.one_pos, HC, rfl⟩
  case round =>
    obtain ⟨i, a, rfl, rfl, rfl, hi, hpi, HA, HN, rfl⟩ := hrel
    have z10 : (i : Int) < 10 := by omega
    have z0 : ¬ (p : Int) < 0 := by omega
    have hw1 : IntKind.i64.wrap ((p : Int) + (i : Int)) = ((p + i : Nat) : Int) := by rw [IntKind.wrap_i64]; omega
    by_cases c1 : p + i < t.length
    · obtain ⟨c, hcx⟩ : ∃ c, t[p + i]? = some c := ⟨_, List.getElem?_eq_getElem c1⟩
      have e0 : ∀ h, (tx t)[p + i]'h = c := fun h => by
        have h3 : (tx t)[p + i]'h = t[p + i]'c1 := rfl
        rw [h3]
        exact Option.some.inj ((List.getElem?_eq_getElem c1).symm.trans hcx)
      have hdr : t.drop (p + i) = c :: t.drop (p + i + 1) := by
        rw [List.drop_eq_getElem_cons c1]
        congr 1
        exact Option.some.inj ((List.getElem?_eq_getElem c1).symm.trans hcx)
      obtain ⟨x, hx⟩ : ∃ x : Nat, c.toNat = x := ⟨_, rfl⟩
      have hx2 : x < 256 := by have := c.toNat_lt; rw [← hx]; simpa using this
      have HX : Hid (cnR i a (c :: t.drop (p + i + 1)) = (v, r, f)) := by rw [Hid, ← hdr]; exact HN.out
      have e1 : ∀ h, ((tx t)[p + i]'h).toNat = x := fun h => by rw [e0]; exact hx
      have z1 : ¬ (t.length : Int) ≤ ((p + i : Nat) : Int) := by omega
      have z2 : ((p + i : Nat) : Int) < (t.length : Int) := by omega
      have z3 : p + i < (tx t).size := by rw [hsz]; exact c1
      have hwx : IntKind.u64.wrap (x : Int) = (x : Int) := by rw [IntKind.wrap_u64]; omega
      obtain ⟨B, hB⟩ : ∃ B, 128 ^ i = B := ⟨_, rfl⟩
      have hBp := pow_bound i hi
      have hBpos : 0 < 128 ^ i := Nat.pow_pos (by decide)
      obtain ⟨P, hP⟩ : ∃ P, x % 128 * 128 ^ i = P := ⟨_, rfl⟩
      have hPb : P ≤ 127 * 128 ^ i := by rw [← hP]; exact Nat.mul_le_mul_right _ (by omega)
      have hPi : (x : Int) % 128 * (B : Int) = (P : Int) := by rw [← hP, hB]; simp [Int.natCast_mul]
      have hP8 : i ≤ 8 → 128 ^ i ≤ 72057594037927936 := fun h8 => by
        have h : (128 : Nat) ^ i ≤ 128 ^ 8 := Nat.pow_le_pow_right (by decide) h8
        have e8 : (128 : Nat) ^ 8 = 72057594037927936 := by decide
        omega
      have hAA := HA.out
      obtain ⟨M, hM⟩ : ∃ M, a + x % 128 * 128 ^ i = M := ⟨_, rfl⟩
      have HM1 : Hid (M = a + P) := by rw [Hid, ← hM, hP]
      have hP1 : x = 1 → P = B := fun h => by rw [← hP, h, hB]; simp
      have hpw : 128 ^ (i + 1) = B * 128 := by rw [Nat.pow_succ, hB]
      rw [hB] at hBp hBpos hPb hP8 hAA ⊢
      obtain ⟨B2, hB2⟩ : ∃ B2 : Nat, B * 128 % 18446744073709551616 = B2 := ⟨_, rfl⟩
      have hst : cnR i a (c :: t.drop (p + i + 1)) = if i ≠ 0 ∧ x = 0 then (0, t.drop (p + i + 1), true) else if 9 ≤ i ∧ x ≠ 1 then (0, t.drop (p + i + 1), true) else if x < 128 then (M, t.drop (p + i + 1), false) else cnR (i + 1) M (t.drop (p + i + 1)) := by
        simp only [cnR, hx, hM]
      rw [hst] at HX
      clear hst hM hP hx hcx hdr HN e0
      by_cases i9 : i = 9
      · subst i9
        by_cases x1 : 1 < x
        · have y1 : (1 : Int) < (x : Int) := by omega
          have HF : Hid (n = 0 ∧ q = -1) := by
            have h := HQ.out
            have hb := HX.out
            rw [if_neg (by omega), if_pos (by omega)] at hb
            simp only [Prod.mk.injEq] at hb
            rw [← hb.2.2] at h
            rw [Hid]
            simpa using h
          clear HX HA HC HQ
          go_wp2
          go_ret2
          obtain ⟨rfl, rfl⟩ := HF.out
          exact ⟨rfl, rfl⟩
        · have y1 : ¬ (1 : Int) < (x : Int) := by omega
          by_cases x0 : x = 0
          · have y0 : (x : Int) = 0 := by omega
            have HF : Hid (n = 0 ∧ q = -1) := by
              have h := HQ.out
              have hb := HX.out
              rw [if_pos (by omega)] at hb
              simp only [Prod.mk.injEq] at hb
              rw [← hb.2.2] at h
              rw [Hid]
              simpa using h
            clear HX HA HC HQ
            go_wp2
            go_ret2
            obtain ⟨rfl, rfl⟩ := HF.out
            exact ⟨rfl, rfl⟩
          · have hPB : P = B := hP1 (by omega)
            have hPB2 : P ≤ B := by omega
            have y0 : ¬ (x : Int) = 0 := by omega
            have y0' : ((x : Int) == 0) = false := by simpa using y0
            have HPB : Hid (P = B) := hPB
            clear hPB
            have hm : IntKind.u64.wrap ((x : Int) % 128 * (B : Int)) = (P : Int) := by rw [IntKind.wrap_u64, hPi]; omega
            have hap : (a : Int) + (P : Int) = (M : Int) := by have := HM1.out; omega
            have hwM : IntKind.u64.wrap (M : Int) = (M : Int) := by have := HM1.out; rw [IntKind.wrap_u64]; omega
            have hm3 : IntKind.u64.wrap ((B : Int) * 128) = (B2 : Int) := by rw [IntKind.wrap_u64]; omega
            have c5 : x < 128 := by omega
            have z5 : (x : Int) < 128 := by omega
            have HF : Hid (n = M ∧ q = ((p + 9 + 1 : Nat) : Int)) := by
              have h := HQ.out
              have hb := HX.out
              rw [if_neg (by omega), if_neg (by omega), if_pos c5] at hb
              simp only [Prod.mk.injEq] at hb
              obtain ⟨g1, g2, g3⟩ := hb
              subst g1 g2 g3
              have hl : (t.drop (p + 9 + 1)).length = t.length - (p + 9 + 1) := List.length_drop
              rw [Hid]
              simp only [Bool.false_eq_true, if_false] at h
              refine ⟨h.1, ?_⟩
              rw [h.2, hl]
              omega
            clear HX HA HC HQ
            go_wp2
            go_ret2
            obtain ⟨rfl, rfl⟩ := HF.out
            exact ⟨rfl, rfl⟩
      · have q9 : ¬ (i : Int) = 9 := by omega
        have q9' : ((i : Int) == 9) = false := by simpa using q9
        have h8 : i ≤ 8 := by omega
        have hBB := hP8 h8
        by_cases i0 : i = 0
        · have z6 : ¬ (0 : Int) < (i : Int) := by omega
          have HI0 : Hid (i = 0) := i0
          clear i0
          have hm : IntKind.u64.wrap ((x : Int) % 128 * (B : Int)) = (P : Int) := by rw [IntKind.wrap_u64, hPi]; omega
          have hap : (a : Int) + (P : Int) = (M : Int) := by have := HM1.out; omega
          have hwM : IntKind.u64.wrap (M : Int) = (M : Int) := by have := HM1.out; rw [IntKind.wrap_u64]; omega
          have hm3 : IntKind.u64.wrap ((B : Int) * 128) = (B2 : Int) := by rw [IntKind.wrap_u64]; omega
          by_cases c5 : x < 128
          · have z5 : (x : Int) < 128 := by omega
            have HF : Hid (n = M ∧ q = ((p + i + 1 : Nat) : Int)) := by
              have h := HQ.out
              have hb := HX.out
              rw [if_neg (by have := HI0.out; omega), if_neg (by omega)] at hb
              rw [if_pos c5] at hb
              simp only [Prod.mk.injEq] at hb
              obtain ⟨g1, g2, g3⟩ := hb
              subst g1 g2 g3
              have hl : (t.drop (p + i + 1)).length = t.length - (p + i + 1) := List.length_drop
              rw [Hid]
              simp only [Bool.false_eq_true, if_false] at h
              refine ⟨h.1, ?_⟩
              rw [h.2, hl]
              omega
            clear HX HA HC HQ
            go_wp2
            go_ret2
            obtain ⟨rfl, rfl⟩ := HF.out
            exact ⟨rfl, rfl⟩
          · have z5 : ¬ (x : Int) < 128 := by omega
            have h8 : i ≤ 8 := by omega
            have HB2 : Hid (((128 ^ (i + 1) : Nat) : Int) = (B2 : Int)) := by
              have := hP8 h8
              rw [Hid, hpw, ← hB2, Nat.mod_eq_of_lt (by omega)]
            have HM2 : Hid (M < 128 ^ (i + 1)) := by have := HM1.out; rw [Hid, hpw]; omega
            have HX2 : Hid (cnR (i + 1) M (t.drop (p + (i + 1))) = (v, r, f)) := by
              have hb := HX.out
              rw [if_neg (by have := HI0.out; omega), if_neg (by omega)] at hb
              rw [if_neg c5] at hb
              exact hb
            clear HX HC
            go_wp2
            go_roundw
            case rel => exact ⟨i + 1, M, rfl, by rw [HB2.out], by go_num, by omega, by omega, HM2, HX2, by first | rfl | trivial⟩
            case measure => simp [intOf]; omega
        · have z6 : (0 : Int) < (i : Int) := by omega
          by_cases x0 : x = 0
          · have y0 : (x : Int) = 0 := by omega
            have HF : Hid (n = 0 ∧ q = -1) := by
              have h := HQ.out
              have hb := HX.out
              rw [if_pos ⟨i0, x0⟩] at hb
              simp only [Prod.mk.injEq] at hb
              rw [← hb.2.2] at h
              rw [Hid]
              simpa using h
            clear HX HA HC HQ
            go_wp2
            go_ret2
            obtain ⟨rfl, rfl⟩ := HF.out
            exact ⟨rfl, rfl⟩
          · have y0 : ¬ (x : Int) = 0 := by omega
            have y0' : ((x : Int) == 0) = false := by simpa using y0
            have hm : IntKind.u64.wrap ((x : Int) % 128 * (B : Int)) = (P : Int) := by rw [IntKind.wrap_u64, hPi]; omega
            have hap : (a : Int) + (P : Int) = (M : Int) := by have := HM1.out; omega
            have hwM : IntKind.u64.wrap (M : Int) = (M : Int) := by have := HM1.out; rw [IntKind.wrap_u64]; omega
            have hm3 : IntKind.u64.wrap ((B : Int) * 128) = (B2 : Int) := by rw [IntKind.wrap_u64]; omega
            by_cases c5 : x < 128
            · have z5 : (x : Int) < 128 := by omega
              have HF : Hid (n = M ∧ q = ((p + i + 1 : Nat) : Int)) := by
                have h := HQ.out
                have hb := HX.out
                rw [if_neg (by omega), if_neg (by omega)] at hb
                rw [if_pos c5] at hb
                simp only [Prod.mk.injEq] at hb
                obtain ⟨g1, g2, g3⟩ := hb
                subst g1 g2 g3
                have hl : (t.drop (p + i + 1)).length = t.length - (p + i + 1) := List.length_drop
                rw [Hid]
                simp only [Bool.false_eq_true, if_false] at h
                refine ⟨h.1, ?_⟩
                rw [h.2, hl]
                omega
              clear HX HA HC HQ
              go_wp2
              go_ret2
              obtain ⟨rfl, rfl⟩ := HF.out
              exact ⟨rfl, rfl⟩
            · have z5 : ¬ (x : Int) < 128 := by omega
              have h8 : i ≤ 8 := by omega
              have HB2 : Hid (((128 ^ (i + 1) : Nat) : Int) = (B2 : Int)) := by
                have := hP8 h8
                rw [Hid, hpw, ← hB2, Nat.mod_eq_of_lt (by omega)]
              have HM2 : Hid (M < 128 ^ (i + 1)) := by have := HM1.out; rw [Hid, hpw]; omega
              have HX2 : Hid (cnR (i + 1) M (t.drop (p + (i + 1))) = (v, r, f)) := by
                have hb := HX.out
                rw [if_neg (by omega), if_neg (by omega)] at hb
                rw [if_neg c5] at hb
                exact hb
              clear HX HC
              go_wp2
              go_roundw
              case rel => exact ⟨i + 1, M, rfl, by rw [HB2.out], by go_num, by omega, by omega, HM2, HX2, by first | rfl | trivial⟩
              case measure => simp [intOf]; omega
    · have z1 : (t.length : Int) ≤ ((p + i : Nat) : Int) := by omega
      have hnil : t.drop (p + i) = [] := List.drop_eq_nil_iff.2 (by omega)
      have hf : f = true := by
        have h := HN.out
        rw [hnil] at h
        simp only [cnR, Prod.mk.injEq] at h
        exact h.2.2.symm
      have HF : Hid (n = 0 ∧ q = -1) := by
        have h := HQ.out
        rw [hf] at h
        rw [Hid]
        simpa using h
      clear hnil hf HN HA HC
      go_wp2
      go_ret2
      obtain ⟨rfl, rfl⟩ := HF.out
      exact ⟨rfl, rfl⟩
end Go.Proofs.Ytnoedkebmpfagaa
