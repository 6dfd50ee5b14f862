import Derived.Test.YtidfkencjdjkbaaGreatDoorQn24
import Derived.Test.YtidfkencjdjkbaaGreatDoorQn06
import Derived.Lib.AppendIntMem
import Derived.Lib.ItoaLen
import Derived.Deep.RegionHeld3
/-
  PACKAGE speech, Print: numbers, spans, sums.
-/
namespace Go.Proofs.YtidfkencjdjkbaaGreatDoor
open Go.RowKit Sp
open Go.Lib (decDigits itoa)

/-- strconv's table -/
def PT (B : Nat) (w : World) : Prop := Lib.TabBelow Tryz.prog B w "internal/strconv.uint64pow10" .u64 Lib.pow10Tab
theorem PT.on {B : Nat} {w w' : World} (h : PT B w) (hb : Below B w w') : PT B w' := Lib.TabBelow.on h hb
theorem itoa_len {v : Int} (h0 : -9223372036854775808 ≤ v) (h1 : v ≤ 9223372036854775807) : (itoa v).length ≤ 21 := by
  by_cases h : v < 0
  · rw [itoa_neg h]
    have := Lib.nDigits_le20 v.natAbs (by omega)
    simp only [List.length_append, Lib.decDigits_length, List.length_cons, List.length_nil]
    omega
  · rw [itoa_pos h]
    have := Lib.nDigits_le20 v.toNat (by omega)
    simp only [Lib.decDigits_length]
    omega
theorem itoa_any (B : Nat) (v : Int) (h0 : -9223372036854775808 ≤ v) (h1 : v ≤ 9223372036854775807) (w : World) (hpt : PT B w) : Calls Tryz.prog 73 #[.int .i64 v] w fun e w' => e = .returned (.string (tx (itoa v))) ∧ Below w.heap.size w w' := by
  refine (Tryz.strconv_Itoa v h0 h1 w hpt.here).mono ?_
  rintro e w' ⟨rfl, k, os, rfl⟩
  exact ⟨rfl, Lib.below_grow _ _ (Nat.le_refl _) _ _⟩
theorem tx_add (s t : By) : tx s ++ tx t = tx (s ++ t) := by
  apply ByteArray.ext
  simp
theorem tx_size (t : By) : (tx t).size = t.length := by simp [ByteArray.size]
set_option maxHeartbeats 1000000 in
theorem wspan_any (B : Nat) (k : Int) (c : By) (lo hi : Int) (v4 v5 : Value) (hlo : -9223372036854775808 ≤ lo ∧ lo ≤ 9223372036854775807) (hhi : -9223372036854775808 ≤ hi ∧ hi ≤ 9223372036854775807) (w : World) (hB : B ≤ w.heap.size) (hpt : PT B w) : Calls Tryz.prog 71 #[.agg #[.int .i64 k, .string (tx c), .int .i64 lo, .int .i64 hi, v4, v5]] w fun e w' => e = .returned (.string (tx (itoa lo ++ (sDots ++ itoa hi)))) ∧ Below w.heap.size w w' := by
  obtain ⟨W, hW⟩ : ∃ W, w.alloc (.cells #[.int .i64 k, .string (tx c), .int .i64 lo, .int .i64 hi, v4, v5] 25) = W := ⟨_, rfl⟩
  have HB0 : Hid (Bx W w.heap.size [.int .i64 k, .string (tx c), .int .i64 lo, .int .i64 hi, v4, v5]) := hW ▸ Bx.new w [.int .i64 k, .string (tx c), .int .i64 lo, .int .i64 hi, v4, v5] 25 rfl
  have bW : Below w.heap.size w W := hW ▸ ba _ _
  have bWd : Below w.heap.size w W.drew := bW.drew
  have kx : ∀ V, Below w.heap.size w V → Calls Tryz.prog 73 #[.int .i64 lo] V fun e w' => e = .returned (.string (tx (itoa lo))) ∧ Below V.heap.size V w' := fun V hV => itoa_any B lo hlo.1 hlo.2 V (hpt.on (hV.mono hB))
  have ky : ∀ V, Below w.heap.size w V → Calls Tryz.prog 73 #[.int .i64 hi] V fun e w' => e = .returned (.string (tx (itoa hi))) ∧ Below V.heap.size V w' := fun V hV => itoa_any B hi hhi.1 hhi.2 V (hpt.on (hV.mono hB))
  have l1 := itoa_len hlo.1 hlo.2
  have l2 := itoa_len hhi.1 hhi.2
  have hadd1 := tx_add (itoa lo) [46, 46]
  have hadd2 := tx_add (itoa lo ++ [46, 46]) (itoa hi)
  have HE : Hid (itoa lo ++ (sDots ++ itoa hi) = itoa lo ++ [46, 46] ++ itoa hi) := by simp [Hid]
  have hl1 : ¬ (9223372036854775807 < (itoa lo).length + 2) := by omega
  have hl2 : ¬ (9223372036854775807 < (itoa lo ++ [46, 46]).length + (itoa hi).length) := by simp only [List.length_append, List.length_cons, List.length_nil]; omega
  rw [HE.out]
  generalize itoa hi = Bh at *
  generalize hA2 : itoa lo ++ [46, 46] = A2 at *
  generalize itoa lo = A at *
  clear HE hA2 l1 l2
  have c2 := (HB0.out 2 _ rfl).c
  have c3 := (HB0.out 3 _ rfl).c
  have hlt := (HB0.out 3 _ rfl).lt
  go_enter Tryz.func71, Tryz.ntmps71
  go_wp2_with fail
  clear hW
  go_region_held3 (fun w' => w'.cell? ⟨w.heap.size, 2, none⟩ = some (.int .i64 lo) ∧ w'.cell? ⟨w.heap.size, 3, none⟩ = some (.int .i64 hi))
    ((go_split_ands; refine ⟨?_, ?_⟩ <;> first | assumption | (simp [go_sem, *]; done)))
    (first | (go_at_call 73; (with_reducible refine (kx _ bWd).mono ?_); rintro e w1 ⟨rfl, b1⟩; have q0 := (b1.cell (p := ⟨w.heap.size, 2, none⟩) hlt).trans c2; have q1 := (b1.cell (p := ⟨w.heap.size, 3, none⟩) hlt).trans c3; have hlt1 := Nat.lt_of_lt_of_le hlt b1.size; have bW1 := bt bWd b1) | (go_at_call 73; (with_reducible refine (ky _ bW1).mono ?_); rintro e w2 ⟨rfl, b2⟩; have r0 := (b2.cell (p := ⟨w.heap.size, 2, none⟩) hlt1).trans q0; have r1 := (b2.cell (p := ⟨w.heap.size, 3, none⟩) hlt1).trans q1))
  have bT : Below w.heap.size w w2 := bt bW1 b2
  clear q0 q1 r0 r1 kx ky b1 b2 bW1 bWd bW
  go_wp2
  go_ret
  exact ⟨rfl, bT⟩
theorem isSum_any (k : Int) (c : By) (lo hi : Int) (v4 v5 : Value) (b : Bool) (hb : (decide (k = 4) || decide (k = 5)) = b) (w : World) : Calls Tryz.prog 75 #[.agg #[.int .i64 k, .string (tx c), .int .i64 lo, .int .i64 hi, v4, v5]] w fun e w' => e = .returned (.bool b) ∧ Below w.heap.size w w' := by
  obtain ⟨W, hW⟩ : ∃ W, w.alloc (.cells #[.int .i64 k, .string (tx c), .int .i64 lo, .int .i64 hi, v4, v5] 25) = W := ⟨_, rfl⟩
  have HB0 : Hid (Bx W w.heap.size [.int .i64 k, .string (tx c), .int .i64 lo, .int .i64 hi, v4, v5]) := hW ▸ Bx.new w [.int .i64 k, .string (tx c), .int .i64 lo, .int .i64 hi, v4, v5] 25 rfl
  have bW : Below w.heap.size w W := hW ▸ ba _ _
  have c0 := (HB0.out 0 _ rfl).c
  by_cases h4 : k = 4
  · subst h4
    obtain rfl : true = b := by rw [← hb]; rfl
    clear hb
    go_enter Tryz.func75, Tryz.ntmps75
    go_wp2
    go_ret
    exact ⟨rfl, bW⟩
  · have d4 : (k == 4) = false := by simpa using h4
    by_cases h5 : k = 5
    · subst h5
      obtain rfl : true = b := by rw [← hb]; rfl
      clear hb
      go_enter Tryz.func75, Tryz.ntmps75
      go_wp2
      go_ret
      exact ⟨rfl, bW⟩
    · have d5 : (k == 5) = false := by simpa using h5
      obtain rfl : false = b := by rw [← hb]; simp [h4, h5]
      clear hb
      go_enter Tryz.func75, Tryz.ntmps75
      go_wp2
      go_ret
      exact ⟨rfl, bW⟩
end Go.Proofs.YtidfkencjdjkbaaGreatDoor
