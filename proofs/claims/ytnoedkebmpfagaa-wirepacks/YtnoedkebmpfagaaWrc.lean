import Derived.Test.YtnoedkebmpfagaaWrb
import Derived.Laws.BitsAllLaws
import Derived.Deep.DeepCutAuto
/-
  PACKAGE wire, the reader: count.
-/
namespace Go.Proofs.Ytnoedkebmpfagaa
open Go.RowKit Wc

/-- what a reading function answers -/
def RdP (w : World) (R : Nat) (b : Bool) (v : Value) (r : By) (f : Bool) (e : Ending) (w' : World) : Prop := e = .returned v ∧ Rdm w' R r (b || f) ∧ w.grownBy w' (some R)
theorem or_add {n c k : Nat} (hn : n < 128 ^ k) (hk : k ≤ 9) (hc : c < 128) (h9 : k = 9 → c ≤ 1) : bits .or .u64 (n : Int) ((c * 128 ^ k : Nat) : Int) = ((n + c * 128 ^ k : Nat) : Int) := by
  have hp := pow_bound k hk
  have hm : c * 128 ^ k < 18446744073709551616 := by
    rcases Nat.lt_or_ge k 9 with h | h
    · have h8 : (128 : Nat) ^ k ≤ 128 ^ 8 := Nat.pow_le_pow_right (by decide) (by omega)
      have e8 : (128 : Nat) ^ 8 = 72057594037927936 := by decide
      have : c * 128 ^ k ≤ 127 * 72057594037927936 := Nat.mul_le_mul (by omega) (by omega)
      omega
    · have := h9 (by omega)
      have : c * 128 ^ k ≤ 1 * 9223372036854775808 := Nat.mul_le_mul this hp
      omega
  rw [u64_or_nat _ _ (by omega) hm]
  congr 1
  have e : (128 : Nat) ^ k = 2 ^ (7 * k) := by rw [Nat.pow_mul]
  rw [e] at hn ⊢
  rw [Nat.or_comm, ← Nat.shiftLeft_eq, ← Nat.shiftLeft_add_eq_or_of_lt hn, Nat.add_comm]
set_option maxHeartbeats 1000000 in
set_option maxRecDepth 100000 in
theorem rcount_any {w : World} {R : Nat} {t : By} {b : Bool} (h : Rdm w R t b) (v : Nat) (r : By) (f : Bool) (hr : ctR t = (v, r, f)) :
    Calls Try.prog 49 #[ptR R] w (RdP w R b (.int .u64 (v : Int)) r f) := by
  have HR : Hid (cnR 0 0 t = (v, r, f)) := hr
  have H0 : Hid (Rdm w R t b) := h
  clear h hr
  go_enter Try.func49, Try.ntmps49
  go_wp2_with fail
  go_loopw [3, 4] (fun nv sv wr => ∃ (k n : Nat) (q : By), nv = .int .u64 (n : Int) ∧ sv = .int .i64 ((7 * k : Nat) : Int) ∧ k ≤ 9 ∧ Hid (n < 128 ^ k) ∧ Hid (cnR k n q = (v, r, f)) ∧ Hid (Rdm wr R q b) ∧ Hid (w.grownBy wr (some R))) (fun _ sv _ => 100 - (intOf sv).toNat)
  case atStart => exact ⟨0, 0, t, rfl, rfl, by decide, Nat.one_pos, HR, H0, gb_refl _ _⟩
  case round =>
    obtain ⟨k, n, q, rfl, rfl, hk, HN, HC, HD, HG⟩ := hrel
    have hP := HC.out
    clear HC
    cases q with
    | nil =>
      have kn := next_any HD.out 0 [] true true (by rfl) (by simp)
      clear HD
      rw [show ((0 : UInt8).toNat : Int) = 0 from rfl] at kn
      simp only [cnR, Prod.mk.injEq] at hP
      obtain ⟨hP1, hP2, hP3⟩ := hP
      by_cases h0 : k = 0
      · subst h0
        rw [if_pos rfl] at hP1
        subst hP1 hP2 hP3
        have hn0 : n = 0 := by have := HN.out; simp at this; exact this
        subst hn0
        simp only [Nat.mul_zero]
        have ho : bits .or .u64 0 0 = 0 := by have := u64_or_nat 0 0 (by decide) (by decide); simpa using this
        go_wp2_with fail
        refine kn.mono ?_
        rintro e w1 ⟨rfl, d1, g1⟩
        clear kn
        have km := must_any d1 true true (by simp)
        go_wp2_with fail
        refine km.mono ?_
        rintro e w2 ⟨rfl, d2, g2⟩
        clear km
        have km := must_any d2 true true (by simp)
        go_wp2_with fail
        refine km.mono ?_
        rintro e w3 ⟨rfl, d3, g3⟩
        clear km
        go_wp2
        go_ret
        exact ⟨rfl, by simpa using d3, gb_trans (gb_trans (gb_trans (HG.out) g1) g2) g3⟩
      · have z1 : ¬ ((7 * k : Nat) : Int) = 0 := by omega
        have z2 : (((7 * k : Nat) : Int) == 0) = false := by simpa using z1
        rw [if_neg h0] at hP1
        subst hP1 hP2 hP3
        obtain ⟨S, hS⟩ : ∃ S : Int, ((7 * k : Nat) : Int) = S := ⟨_, rfl⟩
        rw [hS] at z1 z2 ⊢
        clear hS h0 HN
        go_wp2_with fail
        refine kn.mono ?_
        rintro e w1 ⟨rfl, d1, g1⟩
        clear kn
        have km := must_any d1 false true (by simp)
        go_wp2_with fail
        refine km.mono ?_
        rintro e w2 ⟨rfl, d2, g2⟩
        clear km
        go_wp2
        go_ret
        exact ⟨rfl, by simpa using d2, gb_trans (gb_trans (HG.out) g1) g2⟩
    | cons c q =>
      have kn := next_any HD.out c q false b (by rfl) (by simp)
      have hc : c.toNat < 256 := by have := c.toNat_lt; simpa using this
      simp only [cnR] at hP
      obtain ⟨x, hx⟩ : ∃ x : Nat, c.toNat = x := ⟨_, rfl⟩
      rw [hx] at hP kn hc
      clear hx HD
      by_cases h0 : k = 0
      · subst h0
        have hn0 : n = 0 := by have := HN.out; simp at this; exact this
        subst hn0
        simp only [Nat.mul_zero]
        have ho : bits .or .u64 0 ((x : Int) % 128) = ((x % 128 : Nat) : Int) := by have := u64_or_nat 0 (x % 128) (by decide) (by omega); simpa using this
        rw [if_neg (by simp), if_neg (by omega)] at hP
        go_wp2_with fail
        refine kn.mono ?_
        rintro e w1 ⟨rfl, d1, g1⟩
        clear kn
        have km := must_any d1 true b (by simp)
        go_wp2_with fail
        refine km.mono ?_
        rintro e w2 ⟨rfl, d2, g2⟩
        clear km
        have km := must_any d2 true b (by simp)
        go_wp2_with fail
        refine km.mono ?_
        rintro e w3 ⟨rfl, d3, g3⟩
        clear km
        by_cases h5 : x < 128
        · have z5 : (x : Int) < 128 := by omega
          rw [if_pos h5] at hP
          simp only [Prod.mk.injEq] at hP
          obtain ⟨hP1, hP2, hP3⟩ := hP
          have e5 : x % 128 = v := by omega
          rw [e5] at ho
          subst hP2 hP3
          clear hP1 e5
          go_wp2
          go_ret
          exact ⟨rfl, by simpa using d3, gb_trans (gb_trans (gb_trans (HG.out) g1) g2) g3⟩
        · have z5 : ¬ (x : Int) < 128 := by omega
          rw [if_neg h5] at hP
          have HX : Hid (cnR 1 (x % 128) q = (v, r, f)) := by rw [Hid]; simpa using hP
          obtain ⟨y, hy⟩ : ∃ y, x % 128 = y := ⟨_, rfl⟩
          rw [hy] at ho HX
          have hy2 : y < 128 := by omega
          clear hP hy
          clear h5
          go_wp2
          go_roundw
          case rel => exact ⟨1, y, q, rfl, rfl, by decide, hy2, HX, d3, gb_trans (gb_trans (gb_trans (HG.out) g1) g2) g3⟩
          case measure => simp [intOf]
      · have z1 : ¬ ((7 * k : Nat) : Int) = 0 := by omega
        have z2 : (((7 * k : Nat) : Int) == 0) = false := by simpa using z1
        by_cases hx0 : x = 0
        · subst hx0
          rw [if_pos ⟨h0, rfl⟩] at hP
          simp only [Prod.mk.injEq] at hP
          obtain ⟨hP1, hP2, hP3⟩ := hP
          subst hP1 hP2 hP3
          obtain ⟨S, hS⟩ : ∃ S : Int, ((7 * k : Nat) : Int) = S := ⟨_, rfl⟩
          rw [hS] at z1 z2 ⊢
          clear hS h0 HN
          go_wp2_with fail
          refine kn.mono ?_
          rintro e w1 ⟨rfl, d1, g1⟩
          clear kn
          have km := must_any d1 false true (by simp)
          go_wp2_with fail
          refine km.mono ?_
          rintro e w2 ⟨rfl, d2, g2⟩
          clear km
          go_wp2
          go_ret
          exact ⟨rfl, by simpa using d2, gb_trans (gb_trans (HG.out) g1) g2⟩
        · have x1 : 0 < x := by omega
          have x2 : (0 : Int) < (x : Int) := by omega
          have x3 : ¬ (x : Int) = 0 := by omega
          rw [if_neg (by rintro ⟨-, e⟩; exact hx0 e)] at hP
          by_cases h9 : 9 ≤ k
          · obtain rfl : k = 9 := by omega
            by_cases hx1 : x = 1
            · subst hx1
              rw [if_neg (by rintro ⟨-, e⟩; exact e rfl), if_pos (by decide)] at hP
              simp only [Prod.mk.injEq] at hP
              obtain ⟨hP1, hP2, hP3⟩ := hP
              subst hP2 hP3
              have ho := or_add HN.out (by decide) (c := 1) (by decide) (by intro _; decide)
              have e5 : n + 1 * 128 ^ 9 = v := hP1
              rw [e5] at ho
              have e6 : ((1 * 128 ^ 9 : Nat) : Int) = 9223372036854775808 := by decide
              rw [e6] at ho
              clear hP1 e5 e6 z1 z2 h0 HN
              go_wp2_with fail
              refine kn.mono ?_
              rintro e w1 ⟨rfl, d1, g1⟩
              clear kn
              have km := must_any d1 true b (by simp)
              go_wp2_with fail
              refine km.mono ?_
              rintro e w2 ⟨rfl, d2, g2⟩
              clear km
              have km := must_any d2 true b (by simp)
              go_wp2_with fail
              refine km.mono ?_
              rintro e w3 ⟨rfl, d3, g3⟩
              clear km
              go_wp2
              go_ret
              exact ⟨rfl, by simpa using d3, gb_trans (gb_trans (gb_trans (HG.out) g1) g2) g3⟩
            · rw [if_pos ⟨h9, hx1⟩] at hP
              have x4 : ¬ (x : Int) = 1 := by omega
              have x5 : ((x : Int) == 1) = false := by simpa using x4
              simp only [Prod.mk.injEq] at hP
              obtain ⟨hP1, hP2, hP3⟩ := hP
              subst hP1 hP2 hP3
              clear z1 z2 h0 HN
              go_wp2_with fail
              refine kn.mono ?_
              rintro e w1 ⟨rfl, d1, g1⟩
              clear kn
              have km := must_any d1 true b (by simp)
              go_wp2_with fail
              refine km.mono ?_
              rintro e w2 ⟨rfl, d2, g2⟩
              clear km
              have km := must_any d2 false true (by simp)
              go_wp2_with fail
              refine km.mono ?_
              rintro e w3 ⟨rfl, d3, g3⟩
              clear km
              go_wp2
              go_ret
              exact ⟨rfl, by simpa using d3, gb_trans (gb_trans (gb_trans (HG.out) g1) g2) g3⟩
          · rw [if_neg (by rintro ⟨e, -⟩; exact h9 e)] at hP
            have z3 : ((7 * k : Nat) : Int) < 63 := by omega
            have z4 : (0 : Int) ≤ ((7 * k : Nat) : Int) := by omega
            have z6 : ((7 * k : Nat) : Int) ≤ 64 := by omega
            have z7 : (((7 * k : Nat) : Int)).toNat = 7 * k := by omega
            have ho := or_add (c := x % 128) HN.out (by omega) (by omega) (by omega)
            have hlt : n + x % 128 * 128 ^ k < 128 ^ (k + 1) := by
              have h1 : x % 128 * 128 ^ k ≤ 127 * 128 ^ k := Nat.mul_le_mul_right _ (by omega)
              have h2 := HN.out
              rw [Nat.pow_succ]
              omega
            have hw : IntKind.u64.wrap ((x : Int) % 128 * 2 ^ (7 * k)) = ((x % 128 * 128 ^ k : Nat) : Int) := by
              have e1 : (128 : Nat) ^ k = 2 ^ (7 * k) := by rw [Nat.pow_mul]
              have e : (x : Int) % 128 * 2 ^ (7 * k) = ((x % 128 * 128 ^ k : Nat) : Int) := by
                rw [e1]
                simp [Int.natCast_mul, Int.natCast_pow]
              have h8 : (128 : Nat) ^ k ≤ 128 ^ 8 := Nat.pow_le_pow_right (by decide) (by omega)
              have e8 : (128 : Nat) ^ 8 = 72057594037927936 := by decide
              have h7 : x % 128 * 128 ^ k ≤ 127 * 72057594037927936 := Nat.mul_le_mul (by omega) (by omega)
              rw [e, IntKind.wrap_u64]
              omega
            have HL : Hid (n + x % 128 * 128 ^ k < 128 ^ (k + 1)) := hlt
            obtain ⟨M, hM⟩ : ∃ M : Nat, n + x % 128 * 128 ^ k = M := ⟨_, rfl⟩
            obtain ⟨Y, hY⟩ : ∃ Y : Nat, x % 128 * 128 ^ k = Y := ⟨_, rfl⟩
            rw [hM] at ho hP HL
            rw [hY] at ho hw
            have HS : Hid (7 * k + 7 = 7 * (k + 1)) := by rw [Hid]; omega
            obtain ⟨S, hS⟩ : ∃ S : Nat, 7 * k = S := ⟨_, rfl⟩
            rw [hS] at z1 z2 z3 z4 z6 z7 hw HS ⊢
            have HK : Hid (7 * k = S) := hS
            clear hS hM hY hlt h0 HN h9
            go_wp2_with fail
            refine kn.mono ?_
            rintro e w1 ⟨rfl, d1, g1⟩
            clear kn
            have km := must_any d1 true b (by simp)
            go_wp2_with fail
            refine km.mono ?_
            rintro e w2 ⟨rfl, d2, g2⟩
            clear km
            have km := must_any d2 true b (by simp)
            go_wp2_with fail
            refine km.mono ?_
            rintro e w3 ⟨rfl, d3, g3⟩
            clear km
            by_cases h5 : x < 128
            · have z5 : (x : Int) < 128 := by omega
              rw [if_pos h5] at hP
              simp only [Prod.mk.injEq] at hP
              obtain ⟨rfl, rfl, rfl⟩ := hP
              go_wp2
              go_ret
              exact ⟨rfl, by simpa using d3, gb_trans (gb_trans (gb_trans (HG.out) g1) g2) g3⟩
            · have z5 : ¬ (x : Int) < 128 := by omega
              rw [if_neg h5] at hP
              have HX : Hid (cnR (k + 1) M q = (v, r, f)) := hP
              clear hP h5
              go_wp2
              go_roundw
              case rel => exact ⟨k + 1, M, q, rfl, by rw [← HS.out]; go_num, by have := HK.out; omega, HL, HX, d3, gb_trans (gb_trans (gb_trans (HG.out) g1) g2) g3⟩
              case measure => simp [intOf]; omega
end Go.Proofs.Ytnoedkebmpfagaa
