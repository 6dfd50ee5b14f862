import Derived.Test.YtidfkencjdjkbaaDoorQr04
import Derived.Test.YtidfkencjdjkbaaDoorQr25
import Derived.Lib.SlBytesConst
/-
  The document's own answer, chapter 15: letters, digits, signs, names.
-/
namespace Go.Proofs.YtidfkencjdjkbaaDoor
open Go.RowKit Sp

theorem rlet_any (b : Nat) (w : World) (r : Bool) (hr : (decide (97 ≤ b) && decide (b ≤ 122) || decide (b = 95)) = r) : Calls Tryd.prog 30 #[.int .u8 (b : Int)] w fun e w' => e = .returned (.bool r) ∧ w' = w := by
  have HR : Hid ((decide (97 ≤ b) && decide (b ≤ 122) || decide (b = 95)) = r) := hr
  clear hr
  go_enter Tryd.func30, Tryd.ntmps30
  by_cases h1 : 97 ≤ b
  · by_cases h2 : b ≤ 122
    · obtain rfl : true = r := by rw [← HR.out]; simp [h1, h2]
      go_wp2
      go_ret
      exact ⟨rfl, rfl⟩
    · have h3 : b ≠ 95 := by omega
      obtain rfl : false = r := by rw [← HR.out]; simp [h2, h3]
      go_wp2
      go_ret
      exact ⟨ret_b (by simp; omega), rfl⟩
  · by_cases h3 : b = 95
    · subst h3
      obtain rfl : true = r := by rw [← HR.out]; simp
      go_wp2
      go_ret
      exact ⟨rfl, rfl⟩
    · obtain rfl : false = r := by rw [← HR.out]; simp [h1, h3]
      go_wp2
      go_ret
      exact ⟨ret_b (by simp; omega), rfl⟩
theorem rdig_any (b : Nat) (w : World) (r : Bool) (hr : (decide (48 ≤ b) && decide (b ≤ 57)) = r) : Calls Tryd.prog 31 #[.int .u8 (b : Int)] w fun e w' => e = .returned (.bool r) ∧ w' = w := by
  have HR : Hid ((decide (48 ≤ b) && decide (b ≤ 57)) = r) := hr
  clear hr
  go_enter Tryd.func31, Tryd.ntmps31
  by_cases h1 : 48 ≤ b
  · by_cases h2 : b ≤ 57
    · obtain rfl : true = r := by rw [← HR.out]; simp [h1, h2]
      go_wp2
      go_ret
      exact ⟨ret_b (by simp; try omega), rfl⟩
    · obtain rfl : false = r := by rw [← HR.out]; simp [h2]
      go_wp2
      go_ret
      exact ⟨ret_b (by simp; try omega), rfl⟩
  · obtain rfl : false = r := by rw [← HR.out]; simp [h1]
    go_wp2
    go_ret
    exact ⟨ret_b (by simp; try omega), rfl⟩

set_option maxHeartbeats 400000 in

theorem rdou_any (x : By) (b : Bool) (hb : twoB x = b) (w : World) : Calls Tryd.prog 32 #[.string (tx x)] w fun e w' => e = .returned (.bool b) ∧ w' = w := by
  have HB : Hid (twoB x = b) := hb
  clear hb
  obtain ⟨b1, h1⟩ : ∃ b1, decide (x = [46, 46]) = b1 := ⟨_, rfl⟩
  obtain ⟨b2, h2⟩ : ∃ b1, decide (x = [60, 61]) = b1 := ⟨_, rfl⟩
  obtain ⟨b3, h3⟩ : ∃ b1, decide (x = [62, 61]) = b1 := ⟨_, rfl⟩
  obtain ⟨b4, h4⟩ : ∃ b1, decide (x = [60, 62]) = b1 := ⟨_, rfl⟩
  have q1 := eqs x _ b1 h1
  have q2 := eqs x _ b2 h2
  have q3 := eqs x _ b3 h3
  have q4 := eqs x _ b4 h4
  have p1 : (x == [46, 46]) = b1 := by rw [by_beq]; exact h1
  have p2 : (x == [60, 61]) = b2 := by rw [by_beq]; exact h2
  have p3 : (x == [62, 61]) = b3 := by rw [by_beq]; exact h3
  have p4 : (x == [60, 62]) = b4 := by rw [by_beq]; exact h4
  have HE : Hid (b = (b1 || (b2 || (b3 || b4)))) := by
    rw [Hid, ← HB.out, ← h1, ← h2, ← h3, ← h4]
    simp [twoB]
  clear h1 h2 h3 h4 HB
  go_enter Tryd.func32, Tryd.ntmps32
  cases b1
  · cases b2
    · cases b3
      · go_wp2
        go_ret
        exact ⟨by rw [HE.out]; rfl, rfl⟩
      · go_wp2
        go_ret
        exact ⟨by rw [HE.out]; rfl, rfl⟩
    · go_wp2
      go_ret
      exact ⟨by rw [HE.out]; rfl, rfl⟩
  · go_wp2
    go_ret
    exact ⟨by rw [HE.out]; rfl, rfl⟩

/-- bytes of a new row -/
def sgnsL : List Nat := [43, 45, 42, 40, 41, 91, 93, 44, 61, 60, 62]
theorem one_mem (c : UInt8) : oneB c = decide (c.toNat ∈ sgnsL) := by
  rw [oneB, sgnsL, Bool.eq_iff_iff]
  simp only [decide_eq_true_eq, List.mem_cons, List.not_mem_nil, or_false]
  constructor
  · rintro (h | h | h | h | h | h | h | h | h | h | h) <;> subst h <;> decide
  · have e : ∀ n : Nat, n < 256 → c.toNat = n → c = n.toUInt8 := fun n hn h => by subst h; simp
    rintro (h | h | h | h | h | h | h | h | h | h | h)
    all_goals (have h2 := e _ (by omega) h; rw [h2]; decide)
set_option maxHeartbeats 1000000 in
set_option maxRecDepth 100000 in
theorem rone_any (b : Nat) (w : World) (r : Bool) (hr : decide (b ∈ sgnsL) = r) : Calls Tryd.prog 33 #[.int .u8 (b : Int)] w fun e w' => e = .returned (.bool r) ∧ Below w.heap.size w w' := by
  have HR : Hid (decide (b ∈ sgnsL) = r) := hr
  have hcv := Lib.run_convert_bytes_const (P := Tryd.prog) w 80 5 #[.int .u8 43, .int .u8 45, .int .u8 42, .int .u8 40, .int .u8 41, .int .u8 91, .int .u8 93, .int .u8 44, .int .u8 61, .int .u8 60, .int .u8 62] 11 11 Tryd.underlying80 Tryd.underlying5
  obtain ⟨W, hW⟩ : ∃ W, w.alloc (.cells #[.int .u8 43, .int .u8 45, .int .u8 42, .int .u8 40, .int .u8 41, .int .u8 91, .int .u8 93, .int .u8 44, .int .u8 61, .int .u8 60, .int .u8 62] 5 (11, 12)) = W := ⟨_, rfl⟩
  have HX : Hid (W.heap[w.heap.size]? = some (.cells (sgnsL.map fun n : Nat => Value.int .u8 (n : Int)).toArray 5 (11, 12))) := hW ▸ heap_alloc_new w _
  have HB : Hid (Below w.heap.size w W) := hW ▸ ba _ _
  have hcv2 : (convert 80 80 (.slice (some ⟨w.heap.size, 0, none⟩) 11 11)).run Tryd.prog (w.alloc (.cells #[.int .u8 43, .int .u8 45, .int .u8 42, .int .u8 40, .int .u8 41, .int .u8 91, .int .u8 93, .int .u8 44, .int .u8 61, .int .u8 60, .int .u8 62] 5)) = .ok (.slice (some ⟨w.heap.size, 0, none⟩) 11 11) W := hW ▸ hcv
  clear hr hcv hW
  go_enter Tryd.func33, Tryd.ntmps33
  go_wp2
  go_loopw [8] (fun iv wr => ∃ i : Nat, iv = .int .i64 (i : Int) ∧ i ≤ 11 ∧ Hid (∀ j, j < i → sgnsL[j]? ≠ some b) ∧ wr = W) (fun iv _ => 11 - (intOf iv).toNat)
  case atStart => exact ⟨0, rfl, by omega, fun j hj => by omega, rfl⟩
  case round =>
    obtain ⟨i, rfl, hi, HI, rfl⟩ := hrel
    by_cases h7 : i < 11
    · obtain ⟨s, hs⟩ : ∃ s, sgnsL[i]? = some s := ⟨_, List.getElem?_eq_getElem h7⟩
      have p0 : wr.cell? ⟨w.heap.size, i, none⟩ = some (.int .u8 (s : Int)) := by rw [Lib.cell_of_heap HX.out]; simp [hs]
      have h7i : (i : Int) < 11 := by omega
      have HS : Hid (sgnsL[i]? = some s) := hs
      clear hs
      by_cases he : s = b
      · have d : ((s : Int) == (b : Int)) = true := by simp; omega
        obtain rfl : true = r := by
          rw [← HR.out]
          symm
          rw [decide_eq_true_eq, ← he]
          exact List.mem_of_getElem? HS.out
        clear he
        go_wp2
        go_ret
        exact ⟨rfl, HB.out⟩
      · have d : ((s : Int) == (b : Int)) = false := by simp; omega
        have d2 : ¬ (s : Int) = (b : Int) := by omega
        have HN : Hid (∀ j, j < i + 1 → sgnsL[j]? ≠ some b) := fun j hj => by
          by_cases c : j < i
          · exact HI.out j c
          · obtain rfl : j = i := by omega
            rw [HS.out]
            intro e
            exact he (Option.some.inj e)
        clear he
        go_wp2
        go_roundw
        case rel => exact ⟨i + 1, by go_num, by omega, HN, by first | rfl | trivial⟩
        case measure => simp [intOf]; omega
    · obtain rfl : i = 11 := by omega
      obtain rfl : false = r := by
        rw [← HR.out]
        symm
        rw [decide_eq_false_iff_not]
        intro hm
        obtain ⟨j, hj⟩ := List.mem_iff_getElem?.1 hm
        exact HI.out j (by have := (List.getElem?_eq_some_iff.1 hj).1; simpa [sgnsL] using this) hj
      go_wp2
      go_ret
      exact ⟨rfl, HB.out⟩
set_option maxHeartbeats 1000000 in
set_option maxRecDepth 100000 in
theorem rown_any (x : By) (w : World) (r : Bool) (hr : decide (x ∈ owns) = r) : Calls Tryd.prog 91 #[.string (tx x)] w fun e w' => e = .returned (.bool r) ∧ Below w.heap.size w w' := by
  have HR : Hid (decide (x ∈ owns) = r) := hr
  obtain ⟨W, hW⟩ : ∃ W, w.alloc (.cells #[.string (tx wCount), .string (tx wSum), .string (tx wBins), .string (tx wTotal), .string (tx wJoin), .string (tx wClamp), .string (tx wWhere), .string (tx wAnd), .string (tx wIn)] 9) = W := ⟨_, rfl⟩
  have HX : Hid (Bx W w.heap.size (owns.map fun s => Value.string (tx s))) := hW ▸ Bx.new w (owns.map fun s => Value.string (tx s)) 9 rfl
  have HB : Hid (Below w.heap.size w W) := hW ▸ ba _ _
  clear hr
  go_enter Tryd.func91, Tryd.ntmps91
  go_wp2
  clear hW
  go_loopw [7] (fun iv wr => ∃ i : Nat, iv = .int .i64 (i : Int) ∧ i ≤ 9 ∧ Hid (∀ j, j < i → owns[j]? ≠ some x) ∧ wr = W) (fun iv _ => 9 - (intOf iv).toNat)
  case atStart => exact ⟨0, rfl, by omega, fun j hj => by omega, rfl⟩
  case round =>
    obtain ⟨i, rfl, hi, HI, rfl⟩ := hrel
    by_cases h7 : i < 9
    · obtain ⟨s, hs⟩ : ∃ s, owns[i]? = some s := ⟨_, List.getElem?_eq_getElem h7⟩
      have p0 : wr.cell? ⟨w.heap.size, i, none⟩ = some (.string (tx s)) := (HX.out i _ (by rw [List.getElem?_map, hs]; rfl)).c
      have h7i : (i : Int) < 9 := by omega
      have HS : Hid (owns[i]? = some s) := hs
      clear hs
      by_cases he : s = x
      · have q := eqs s x true (by simpa using he)
        have q2 : (s == x) = true := by rw [by_beq]; simpa using he
        obtain rfl : true = r := by
          rw [← HR.out]
          symm
          rw [decide_eq_true_eq, ← he]
          exact List.mem_of_getElem? HS.out
        clear he
        go_wp2
        go_ret
        exact ⟨rfl, HB.out⟩
      · have q := eqs s x false (by simpa using he)
        have q2 : (s == x) = false := by rw [by_beq]; simpa using he
        have HN : Hid (∀ j, j < i + 1 → owns[j]? ≠ some x) := fun j hj => by
          by_cases c : j < i
          · exact HI.out j c
          · obtain rfl : j = i := by omega
            rw [HS.out]
            intro e
            exact he (Option.some.inj e)
        clear he
        go_wp2
        go_roundw
        case rel => exact ⟨i + 1, by go_num, by omega, HN, by first | rfl | trivial⟩
        case measure => simp [intOf]; omega
    · obtain rfl : i = 9 := by omega
      obtain rfl : false = r := by
        rw [← HR.out]
        symm
        rw [decide_eq_false_iff_not]
        intro hm
        obtain ⟨j, hj⟩ := List.mem_iff_getElem?.1 hm
        exact HI.out j (by have := (List.getElem?_eq_some_iff.1 hj).1; simpa [owns] using this) hj
      go_wp2
      go_ret
      exact ⟨rfl, HB.out⟩
set_option maxHeartbeats 1000000 in
set_option maxRecDepth 100000 in
theorem rnamd_any (x : By) (hx : x.length ≤ 65536) (w : World) (r : Bool) (hr : namB x = r) : Calls Tryd.prog 90 #[.string (tx x)] w fun e w' => e = .returned (.bool r) ∧ w' = w := by
  have HR : Hid (namB x = r) := hr
  have hsz : (tx x).size = x.length := by show x.toArray.size = _; simp
  obtain ⟨n, hn⟩ : ∃ n, x.length = n := ⟨_, rfl⟩
  have HN : Hid (x.length = n) := hn
  have hszn : (tx x).size = n := hsz.trans hn
  rw [hn] at hx
  clear hr hn hsz
  go_enter Tryd.func90, Tryd.ntmps90
  go_wp2
  go_loopw [3] (fun iv wr => ∃ i : Nat, iv = .int .i64 (i : Int) ∧ i ≤ n ∧ Hid ((x.take i).all letB = true) ∧ wr = w) (fun iv _ => n - (intOf iv).toNat)
  case atStart => exact ⟨0, rfl, by omega, by simp [Hid], rfl⟩
  case round =>
    obtain ⟨i, rfl, hi, HI, rfl⟩ := hrel
    by_cases h7 : i < n
    · obtain ⟨c, hc⟩ : ∃ c, x[i]? = some c := ⟨_, List.getElem?_eq_getElem (by rw [HN.out]; exact h7)⟩
      have e0 : ∀ h, (tx x)[i]'h = c := fun h => by
        have h3 : (tx x)[i]'h = x[i]'(by rw [HN.out]; exact h7) := rfl
        rw [h3]
        exact Option.some.inj ((List.getElem?_eq_getElem _).symm.trans hc)
      have h7i : (i : Int) < (n : Int) := by omega
      have h7s : i < (tx x).size := by omega
      have HC : Hid (x[i]? = some c) := hc
      clear hc
      have htk : Hid (x.take (i + 1) = x.take i ++ [c]) := by rw [Hid, List.take_add_one, HC.out]; rfl
      cases hl : letB c with
      | true =>
        have HT : Hid ((x.take (i + 1)).all letB = true) := by rw [Hid, htk.out, List.all_append, HI.out]; simp [hl]
        have hl2 := hl
        simp only [letB, Bool.or_eq_true, Bool.and_eq_true, decide_eq_true_eq] at hl2
        clear hl
        by_cases d1 : 97 ≤ c.toNat
        · have d2 : c.toNat ≤ 122 := by omega
          clear hl2
          go_wp2
          go_roundw
          case rel => exact ⟨i + 1, by go_num, by omega, HT, by first | rfl | trivial⟩
          case measure => simp [intOf]; omega
        · have d3 : c.toNat = 95 := by omega
          clear hl2
          go_wp2
          go_roundw
          case rel => exact ⟨i + 1, by go_num, by omega, HT, by first | rfl | trivial⟩
          case measure => simp [intOf]; omega
      | false =>
        obtain rfl : false = r := by
          rw [← HR.out]
          have : x.all letB = false := List.all_eq_false.2 ⟨c, List.mem_of_getElem? HC.out, by simp [hl]⟩
          simp [namB, this]
        simp only [letB, Bool.or_eq_false_iff, Bool.and_eq_false_iff, decide_eq_false_iff_not] at hl
        have d3 : ¬ c.toNat = 95 := hl.2
        have d4 : ((c.toNat : Int) == 95) = false := by simp; omega
        have d7 : ¬ (c.toNat : Int) = 95 := by omega
        by_cases d1 : 97 ≤ c.toNat
        · have d2 : ¬ c.toNat ≤ 122 := by omega
          have d5 : decide (c.toNat ≤ 122) = false := by simpa using d2
          have d6 : ¬ (c.toNat : Int) ≤ 122 := by omega
          clear hl
          go_wp2
          go_ret
          exact ⟨rfl, rfl⟩
        · have d5 : decide (97 ≤ c.toNat) = false := by simpa using d1
          have d6 : ¬ (97 : Int) ≤ (c.toNat : Int) := by omega
          clear hl
          go_wp2
          go_ret
          exact ⟨rfl, rfl⟩
    · obtain rfl : i = n := by omega
      have HA : Hid (x.all letB = true) := by
        have := HI.out
        rwa [List.take_of_length_le (by rw [HN.out]; omega)] at this
      have HE : Hid (r = (decide (0 < i) && decide (i ≤ 32))) := by
        rw [Hid, ← HR.out, namB, HA.out, HN.out, Bool.and_true]
        rfl
      by_cases e1 : 0 < i
      · have e2 : (0 : Int) < (i : Int) := by omega
        go_wp2
        go_ret
        exact ⟨by rw [HE.out]; simp [e1]; omega, rfl⟩
      · obtain rfl : i = 0 := by omega
        go_wp2
        go_ret
        exact ⟨by rw [HE.out]; rfl, rfl⟩
theorem rnmd_any (x : By) (hx : x.length ≤ 65536) (w : World) (r : Bool) (hr : nmd x = r) : Calls Tryd.prog 83 #[.string (tx x)] w fun e w' => e = .returned (.bool r) ∧ Below w.heap.size w w' := by
  obtain ⟨nb, hnb⟩ : ∃ nb, namB x = nb := ⟨_, rfl⟩
  obtain ⟨ob, hob⟩ : ∃ ob, decide (x ∈ owns) = ob := ⟨_, rfl⟩
  have k := rnamd_any x hx w nb hnb
  have k2 := rown_any x w ob hob
  have HR : Hid (r = (nb && !ob)) := by rw [Hid, ← hr, nmd, hnb, hob]
  clear hob hnb hr
  go_enter Tryd.func83, Tryd.ntmps83
  go_wp2_with fail
  refine k.mono ?_
  rintro e w1 ⟨rfl, rfl⟩
  clear k
  cases nb
  · go_wp2
    go_ret
    exact ⟨by rw [HR.out]; rfl, Below.refl _ _⟩
  · go_wp2_with fail
    refine k2.mono ?_
    rintro e w2 ⟨rfl, hb⟩
    go_wp2
    go_ret
    exact ⟨by rw [HR.out]; rfl, hb⟩
end Go.Proofs.YtidfkencjdjkbaaDoor
