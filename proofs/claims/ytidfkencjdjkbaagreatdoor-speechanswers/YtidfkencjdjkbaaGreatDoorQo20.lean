import Derived.Test.YtidfkencjdjkbaaGreatDoorQo19
import Derived.Test.YtidfkencjdjkbaaGreatDoorQo05
import Derived.Lib.AppendIntMem
import Derived.Lib.ItoaLen
import Derived.Deep.RegionHeld3
/-
  PACKAGE speech, Print: put.
-/
namespace Go.Proofs.YtidfkencjdjkbaaGreatDoor
open Go.RowKit Sp

theorem take_snoc {l : List By} {i : Nat} {s : By} (h : l[i]? = some s) : l.take (i + 1) = l.take i ++ [s] := by
  rw [List.take_add_one, h]; rfl
theorem wrs_len_le (last : By) (l : List By) (i : Nat) : (wrs last (l.take i)).length ≤ (wrs last l).length := by
  have h := wrs_app last (l.take i) (l.drop i)
  rw [List.take_append_drop] at h
  rw [h, List.length_append]
  omega
theorem Wtr.c2 {w : World} {B R : Nat} {t last : By} (h : Wtr w B R t last) : w.cell? ⟨R, 2, none⟩ = some (.string (tx last)) ∧ w.frozen? ⟨R, 2, none⟩ = false := by
  obtain ⟨p, hB, v, hbk, _⟩ := h.one
  exact ⟨by rw [Lib.cell_of_heap hbk]; rfl, Lib.frozen_of_heap hbk 2⟩
theorem Wtr.last {w : World} {B R : Nat} {t last : By} (h : Wtr w B R t last) (s : By) : Wtr (w.setCell ⟨R, 2, none⟩ (.string (tx s))) B R t s := h.imp (·.last s) (·.last s)
theorem Wtr.le {w : World} {B R : Nat} {t last : By} (h : Wtr w B R t last) : B ≤ R := h.elim (·.1) (·.1)
theorem Kpw.set {B R : Nat} {w w' : World} (h : Kpw B R w w') (hB : B ≤ R) (k : Nat) (v : Value) : Kpw B R w (w'.setCell ⟨R, k, none⟩ v) := ⟨h.b.setCell (p := ⟨R, k, none⟩) hB _, h.o.setCell ⟨R, k, none⟩ rfl _⟩
set_option maxHeartbeats 2000000 in
set_option maxRecDepth 100000 in
theorem put_any {B R S : Nat} (l : List By) (hS : S ≠ R) (t last : By) (w : World) (h : Wtr w B R t last) (hx : Txs w S l) (hB : B ≤ w.heap.size) (ht : t.length ≤ 65536) (hl : ∀ s ∈ l, s.length ≤ 65536) (hln : l.length ≤ 4) : Calls Tryz.prog 70 #[.pointer (some ⟨R, 0, none⟩), .slice (some ⟨S, 0, none⟩) l.length l.length] w (PtP B R w t last l) := by
  have HX : Hid (Txs w S l) := hx
  have HL : Hid (∀ s ∈ l, s.length ≤ 65536) := hl
  have HH : Hid (Wtr w B R t last) := h
  obtain ⟨n, hn⟩ : ∃ n, l.length = n := ⟨_, rfl⟩
  have HN : Hid (l.length = n) := hn
  rw [hn] at hln ⊢
  clear hx hl h hn
  go_enter Tryz.func70, Tryz.ntmps70
  go_wp2
  go_loopw [8] (fun iv wr => ∃ i : Nat, iv = .int .i64 (i : Int) ∧ i ≤ n ∧ Hid (Wtr wr B R (t ++ wrs last (l.take i)) (lsT last (l.take i))) ∧ Hid ((t ++ wrs last (l.take i)).length ≤ 65536) ∧ Hid (Kpw B R w wr)) (fun iv _ => n - (intOf iv).toNat)
  case atStart => exact ⟨0, rfl, Nat.zero_le _, by rw [Hid]; simpa [wrs, lsT] using HH.out, by simpa [wrs, Hid] using ht, Kpw.refl B R w⟩
  case round =>
    obtain ⟨i, rfl, hil, HW, HT, HK⟩ := hrel
    by_cases c9 : i < n
    · obtain ⟨s, hs⟩ : ∃ s, l[i]? = some s := ⟨_, List.getElem?_eq_getElem (by rw [HN.out]; exact c9)⟩
      have HS : Hid (l[i]? = some s) := hs
      have hsl := HL.out s (List.mem_of_getElem? hs)
      have HXr : Hid (Txs wr S l) := HX.out.kept hS HK.out
      have p0 : wr.cell? ⟨S, i, none⟩ = some (.string (tx s)) := HXr.out.cell hs
      obtain ⟨T, hT⟩ : ∃ T, t ++ wrs last (l.take i) = T := ⟨_, rfl⟩
      obtain ⟨ls, hls⟩ : ∃ ls, lsT last (l.take i) = ls := ⟨_, rfl⟩
      have HT2 : Hid (t ++ wrs last (l.take (i + 1)) = T ++ wrs ls [s]) := by rw [Hid, take_snoc hs, wrs_app, ← List.append_assoc, hT, hls]
      have HL2 : Hid (lsT last (l.take (i + 1)) = s) := by rw [Hid, take_snoc hs, lsT_app]; rfl
      rw [hT, hls] at HW
      rw [hT] at HT
      have HWL : Hid ((wrs last (l.take (i + 1))).length ≤ (wrs last l).length) := wrs_len_le last l (i + 1)
      clear hs hT hls
      have hTl := HT.out
      have hsz : B ≤ wr.heap.size := Nat.le_trans hB HK.out.b.size
      have p2 := HW.out.c2.1
      have hBR := HW.out.le
      obtain ⟨b, hb⟩ : ∃ b, apt ls s = b := ⟨_, rfl⟩
      have ka := apart_any ls s b hb wr
      have HB : Hid (apt ls s = b) := hb
      have c9i : (i : Int) < (n : Int) := by omega
      clear hb
      go_wp2_with fail
      refine ka.mono ?_
      rintro e w2 ⟨rfl, rfl⟩
      clear ka p2
      have hstep : ∀ (T' : By) (wa : World), T' = T ++ (if b then [32] else []) → True := fun _ _ _ => trivial
      cases b with
      | true =>
        have kb := wbyt_any HW.out (by omega) hsz
        go_wp2_with fail
        refine kb.mono ?_
        rintro e w3 ⟨⟨x, rfl⟩, hw3, hk3⟩
        have HW3 : Hid (Wtr w3 B R (T ++ [32]) ls) := hw3
        have HK3 : Hid (Kpw B R w w3) := HK.out.trans hk3
        have ks := wstr_any HW3.out s (by simp; omega) (Nat.le_trans hB HK3.out.b.size)
        clear kb hw3 hk3
        go_wp2_with fail
        refine ks.mono ?_
        rintro e w4 ⟨⟨x, rfl⟩, hw4, hk4⟩
        have HW4 : Hid (Wtr w4 B R (T ++ [32] ++ s) ls) := hw4
        have HK4 : Hid (Kpw B R w w4) := HK3.out.trans hk4
        have d2 := HW4.out.c2.1
        have f2 := HW4.out.c2.2
        obtain ⟨W5, hW5⟩ : ∃ W5, w4.setCell ⟨R, 2, none⟩ (.string (tx s)) = W5 := ⟨_, rfl⟩
        have HW5 : Hid (Wtr W5 B R (T ++ [32] ++ s) s) := hW5 ▸ HW4.out.last s
        have HK5 : Hid (Kpw B R w W5) := hW5 ▸ HK4.out.set hBR 2 _
        have kl := len_any HW5.out
        have HE : Hid (T ++ wrs ls [s] = T ++ [32] ++ s) := by rw [Hid, wrs_one, HB.out]; simp
        obtain ⟨m, hm⟩ : ∃ m, (T ++ [32] ++ s).length = m := ⟨_, rfl⟩
        have HM : Hid ((T ++ [32] ++ s).length = m) := hm
        rw [hm] at kl
        clear ks hw4 hk4 hm
        by_cases cm : m ≤ 65536
        · have km := must_ok 4 0 W5
          have cmi : (m : Int) ≤ 65536 := by omega
          go_wp2_with fail
          refine kl.mono ?_
          rintro e w6 ⟨rfl, rfl⟩
          clear hW5 kl
          go_wp2_with fail
          refine km.mono ?_
          rintro e w7 ⟨rfl, rfl⟩
          clear km
          go_wp2
          go_roundw
          case rel => exact ⟨i + 1, by go_num, by omega, by rw [HT2.out, HL2.out, HE.out]; exact HW5.out, by rw [Hid, HT2.out, HE.out, HM.out]; exact cm, HK5.out⟩
          case measure => simp [intOf]; omega
        · have km := must_no 4 0 W5
          have cmi : ¬ (m : Int) ≤ 65536 := by omega
          have cmd : decide ((m : Int) ≤ 65536) = false := by simpa using cmi
          have cmn : ¬ m ≤ 65536 := cm
          go_wp2_with fail
          refine kl.mono ?_
          rintro e w6 ⟨rfl, rfl⟩
          clear hW5 kl
          go_wp2_with fail
          refine km.mono ?_
          rintro e w7 ⟨rfl, rfl⟩
          clear km
          go_wp2
          refine ⟨rfl, ?_, HK5.out⟩
          rw [if_neg]
          have h1 := HWL.out
          have h2 := HM.out
          have h3 := congrArg List.length (HT2.out.trans HE.out)
          rw [h2] at h3
          simp only [List.length_append] at h3 ⊢
          omega
      | false =>
        have ks := wstr_any HW.out s (by omega) hsz
        go_wp2_with fail
        refine ks.mono ?_
        rintro e w4 ⟨⟨x, rfl⟩, hw4, hk4⟩
        have HW4 : Hid (Wtr w4 B R (T ++ s) ls) := hw4
        have HK4 : Hid (Kpw B R w w4) := HK.out.trans hk4
        have d2 := HW4.out.c2.1
        have f2 := HW4.out.c2.2
        obtain ⟨W5, hW5⟩ : ∃ W5, w4.setCell ⟨R, 2, none⟩ (.string (tx s)) = W5 := ⟨_, rfl⟩
        have HW5 : Hid (Wtr W5 B R (T ++ s) s) := hW5 ▸ HW4.out.last s
        have HK5 : Hid (Kpw B R w W5) := hW5 ▸ HK4.out.set hBR 2 _
        have kl := len_any HW5.out
        have HE : Hid (T ++ wrs ls [s] = T ++ s) := by rw [Hid, wrs_one, HB.out]; simp
        obtain ⟨m, hm⟩ : ∃ m, (T ++ s).length = m := ⟨_, rfl⟩
        have HM : Hid ((T ++ s).length = m) := hm
        rw [hm] at kl
        clear ks hw4 hk4 hm
        by_cases cm : m ≤ 65536
        · have km := must_ok 4 0 W5
          have cmi : (m : Int) ≤ 65536 := by omega
          go_wp2_with fail
          refine kl.mono ?_
          rintro e w6 ⟨rfl, rfl⟩
          clear hW5 kl
          go_wp2_with fail
          refine km.mono ?_
          rintro e w7 ⟨rfl, rfl⟩
          clear km
          go_wp2
          go_roundw
          case rel => exact ⟨i + 1, by go_num, by omega, by rw [HT2.out, HL2.out, HE.out]; exact HW5.out, by rw [Hid, HT2.out, HE.out, HM.out]; exact cm, HK5.out⟩
          case measure => simp [intOf]; omega
        · have km := must_no 4 0 W5
          have cmi : ¬ (m : Int) ≤ 65536 := by omega
          have cmd : decide ((m : Int) ≤ 65536) = false := by simpa using cmi
          have cmn : ¬ m ≤ 65536 := cm
          go_wp2_with fail
          refine kl.mono ?_
          rintro e w6 ⟨rfl, rfl⟩
          clear hW5 kl
          go_wp2_with fail
          refine km.mono ?_
          rintro e w7 ⟨rfl, rfl⟩
          clear km
          go_wp2
          refine ⟨rfl, ?_, HK5.out⟩
          rw [if_neg]
          have h1 := HWL.out
          have h2 := HM.out
          have h3 := congrArg List.length (HT2.out.trans HE.out)
          rw [h2] at h3
          simp only [List.length_append] at h3 ⊢
          omega
    · obtain rfl : i = n := by omega
      have hti : l.take i = l := List.take_of_length_le (by rw [HN.out]; omega)
      rw [hti] at HW HT
      clear hti
      go_wp2
      go_end0
      refine ⟨?_, HK.out⟩
      rw [if_pos HT.out]
      exact ⟨rfl, HW.out⟩
end Go.Proofs.YtidfkencjdjkbaaGreatDoor

/-
  PACKAGE speech, Print: numbers, spans, sums.
-/
namespace Go.Proofs.YtidfkencjdjkbaaGreatDoor
open Go.RowKit Sp
open Go.Lib (decDigits itoa)

/-- strconv's table -/
def PT (B : Nat) (w : World) : Prop := Lib.TabBelow Tryz.prog B w "internal/strconv.uint64pow10" .u64 Lib.pow10Tab
theorem PT.on {B : Nat} {w w' : World} (h : PT B w) (hb : Below B w w') : PT B w' := Lib.TabBelow.on h hb
theorem itoa_len {v : Int} (h0 : -9223372036854775808 ≤ v) (h1 : v ≤ 9223372036854775807) : (itoa v).length ≤ 21 := by
  by_cases h : v < 0
  · rw [itoa_neg h]
    have := Lib.nDigits_le20 v.natAbs (by omega)
    simp only [List.length_append, Lib.decDigits_length, List.length_cons, List.length_nil]
    omega
  · rw [itoa_pos h]
    have := Lib.nDigits_le20 v.toNat (by omega)
    simp only [Lib.decDigits_length]
    omega
theorem itoa_any (B : Nat) (v : Int) (h0 : -9223372036854775808 ≤ v) (h1 : v ≤ 9223372036854775807) (w : World) (hpt : PT B w) : Calls Tryz.prog 73 #[.int .i64 v] w fun e w' => e = .returned (.string (tx (itoa v))) ∧ Below w.heap.size w w' := by
  refine (Tryz.strconv_Itoa v h0 h1 w hpt.here).mono ?_
  rintro e w' ⟨rfl, k, os, rfl⟩
  exact ⟨rfl, Lib.below_grow _ _ (Nat.le_refl _) _ _⟩
theorem tx_add (s t : By) : tx s ++ tx t = tx (s ++ t) := by
  apply ByteArray.ext
  simp
set_option maxHeartbeats 1000000 in
theorem wspan_any (B : Nat) (k : Int) (c : By) (lo hi : Int) (v4 v5 : Value) (hlo : -9223372036854775808 ≤ lo ∧ lo ≤ 9223372036854775807) (hhi : -9223372036854775808 ≤ hi ∧ hi ≤ 9223372036854775807) (w : World) (hB : B ≤ w.heap.size) (hpt : PT B w) : Calls Tryz.prog 71 #[.agg #[.int .i64 k, .string (tx c), .int .i64 lo, .int .i64 hi, v4, v5]] w fun e w' => e = .returned (.string (tx (itoa lo ++ (sDots ++ itoa hi)))) ∧ Below w.heap.size w w' := by
  obtain ⟨W, hW⟩ : ∃ W, w.alloc (.cells #[.int .i64 k, .string (tx c), .int .i64 lo, .int .i64 hi, v4, v5] 25) = W := ⟨_, rfl⟩
  have HB0 : Hid (Bx W w.heap.size [.int .i64 k, .string (tx c), .int .i64 lo, .int .i64 hi, v4, v5]) := hW ▸ Bx.new w [.int .i64 k, .string (tx c), .int .i64 lo, .int .i64 hi, v4, v5] 25 rfl
  have bW : Below w.heap.size w W := hW ▸ ba _ _
  have bWd : Below w.heap.size w W.drew := bW.drew
  have kx : ∀ V, Below w.heap.size w V → Calls Tryz.prog 73 #[.int .i64 lo] V fun e w' => e = .returned (.string (tx (itoa lo))) ∧ Below V.heap.size V w' := fun V hV => itoa_any B lo hlo.1 hlo.2 V (hpt.on (hV.mono hB))
  have ky : ∀ V, Below w.heap.size w V → Calls Tryz.prog 73 #[.int .i64 hi] V fun e w' => e = .returned (.string (tx (itoa hi))) ∧ Below V.heap.size V w' := fun V hV => itoa_any B hi hhi.1 hhi.2 V (hpt.on (hV.mono hB))
  have l1 := itoa_len hlo.1 hlo.2
  have l2 := itoa_len hhi.1 hhi.2
  have hadd1 := tx_add (itoa lo) [46, 46]
  have hadd2 := tx_add (itoa lo ++ [46, 46]) (itoa hi)
  have HE : Hid (itoa lo ++ (sDots ++ itoa hi) = itoa lo ++ [46, 46] ++ itoa hi) := by simp [Hid]
  have hl1 : ¬ (9223372036854775807 < (itoa lo).length + 2) := by omega
  have hl2 : ¬ (9223372036854775807 < (itoa lo ++ [46, 46]).length + (itoa hi).length) := by simp only [List.length_append, List.length_cons, List.length_nil]; omega
  rw [HE.out]
  generalize itoa hi = Bh at *
  generalize hA2 : itoa lo ++ [46, 46] = A2 at *
  generalize itoa lo = A at *
  clear HE hA2 l1 l2
  have c2 := (HB0.out 2 _ rfl).c
  have c3 := (HB0.out 3 _ rfl).c
  have hlt := (HB0.out 3 _ rfl).lt
  go_enter Tryz.func71, Tryz.ntmps71
  go_wp2_with fail
  clear hW
  go_region_held3 (fun w' => w'.cell? ⟨w.heap.size, 2, none⟩ = some (.int .i64 lo) ∧ w'.cell? ⟨w.heap.size, 3, none⟩ = some (.int .i64 hi))
    ((go_split_ands; refine ⟨?_, ?_⟩ <;> first | assumption | (simp [go_sem, *]; done)))
    (first | (go_at_call 73; (with_reducible refine (kx _ bWd).mono ?_); rintro e w1 ⟨rfl, b1⟩; have q0 := (b1.cell (p := ⟨w.heap.size, 2, none⟩) hlt).trans c2; have q1 := (b1.cell (p := ⟨w.heap.size, 3, none⟩) hlt).trans c3; have hlt1 := Nat.lt_of_lt_of_le hlt b1.size; have bW1 := bt bWd b1) | (go_at_call 73; (with_reducible refine (ky _ bW1).mono ?_); rintro e w2 ⟨rfl, b2⟩; have r0 := (b2.cell (p := ⟨w.heap.size, 2, none⟩) hlt1).trans q0; have r1 := (b2.cell (p := ⟨w.heap.size, 3, none⟩) hlt1).trans q1))
  have bT : Below w.heap.size w w2 := bt bW1 b2
  clear q0 q1 r0 r1 kx ky b1 b2 bW1 bWd bW
  go_wp2
  go_ret
  exact ⟨rfl, bT⟩
theorem isSum_any (k : Int) (c : By) (lo hi : Int) (v4 v5 : Value) (b : Bool) (hb : (decide (k = 4) || decide (k = 5)) = b) (w : World) : Calls Tryz.prog 75 #[.agg #[.int .i64 k, .string (tx c), .int .i64 lo, .int .i64 hi, v4, v5]] w fun e w' => e = .returned (.bool b) ∧ Below w.heap.size w w' := by
  obtain ⟨W, hW⟩ : ∃ W, w.alloc (.cells #[.int .i64 k, .string (tx c), .int .i64 lo, .int .i64 hi, v4, v5] 25) = W := ⟨_, rfl⟩
  have HB0 : Hid (Bx W w.heap.size [.int .i64 k, .string (tx c), .int .i64 lo, .int .i64 hi, v4, v5]) := hW ▸ Bx.new w [.int .i64 k, .string (tx c), .int .i64 lo, .int .i64 hi, v4, v5] 25 rfl
  have bW : Below w.heap.size w W := hW ▸ ba _ _
  have c0 := (HB0.out 0 _ rfl).c
  by_cases h4 : k = 4
  · subst h4
    obtain rfl : true = b := by rw [← hb]; rfl
    clear hb
    go_enter Tryz.func75, Tryz.ntmps75
    go_wp2
    go_ret
    exact ⟨rfl, bW⟩
  · have d4 : (k == 4) = false := by simpa using h4
    by_cases h5 : k = 5
    · subst h5
      obtain rfl : true = b := by rw [← hb]; rfl
      clear hb
      go_enter Tryz.func75, Tryz.ntmps75
      go_wp2
      go_ret
      exact ⟨rfl, bW⟩
    · have d5 : (k == 5) = false := by simpa using h5
      obtain rfl : false = b := by rw [← hb]; simp [h4, h5]
      clear hb
      go_enter Tryz.func75, Tryz.ntmps75
      go_wp2
      go_ret
      exact ⟨rfl, bW⟩
end Go.Proofs.YtidfkencjdjkbaaGreatDoor
