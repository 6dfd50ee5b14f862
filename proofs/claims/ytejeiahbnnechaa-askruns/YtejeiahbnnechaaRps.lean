import Derived.Test.YtejeiahbnnechaaGth
import Derived.Test.YtejeiahbnnechaaRsm
import Derived.Deep.RegionHeld3
namespace Go.Proofs.Ytejeiahbnnechaa
open Go.RowKit Go.Proofs.Ytejeiahbnnechaa.Ds

theorem rinto_any (lo hi v : Int) (w : World) : Calls Try.prog 69 #[.int .i64 v, .int .i64 lo, .int .i64 hi] w fun e w' => e = .returned (.int .i64 (inT lo hi v)) ∧ w' = w := by
  go_enter Try.func69, Try.ntmps69
  by_cases c1 : v < lo
  · rw [inT, if_pos c1]
    go_wp2
    go_ret
    exact ⟨rfl, rfl⟩
  · by_cases c2 : hi < v
    · rw [inT, if_neg c1, if_pos c2]
      go_wp2
      go_ret
      exact ⟨rfl, rfl⟩
    · rw [inT, if_neg c1, if_neg c2]
      go_wp2
      go_ret
      exact ⟨rfl, rfl⟩
theorem pas_step {l : List Col} {wh : List Tst} {row : List Int} {i : Nat} {t : Tst} (h : wh[i]? = some t) : pasB ((wh.drop i).map (trp l)) row = (tstB t.2.1 t.2.2 (row.getD ((fnd l t.1).getD 0) 0) && pasB ((wh.drop (i + 1)).map (trp l)) row) := by
  rw [List.drop_eq_getElem_cons (List.getElem?_eq_some_iff.1 h).1, (List.getElem?_eq_some_iff.1 h).2]
  rfl

set_option maxHeartbeats 2000000 in
set_option maxRecDepth 100000 in
theorem rpasses_any (B nb : Nat) (lv v rv : Value) (l : List Col) (wh : List Tst) (row : List Int) (w : World) (hB : B ≤ w.heap.size) (hp : Cols w B lv l) (hq : Tss w B v wh) (hr : Ints w B nb rv row) (hwe : whE l wh = 0) (hok : RowOk l row) (r : Bool) (hpb : pasB (wh.map (trp l)) row = r) :
    Calls Try.prog 68 #[lv, v, rv] w fun e w' => e = .returned (.bool r) ∧ Below w.heap.size w w' := by
  have HP : Hid (Cols w B lv l) := hp
  have HQ : Hid (Tss w B v wh) := hq
  have HR : Hid (Ints w B nb rv row) := hr
  have HPB : Hid (pasB (wh.map (trp l)) row = r) := hpb
  have HT : Hid (∀ t ∈ wh, (fnd l t.1).isSome = true ∧ doB t.2.1 = true) := by
    unfold whE at hwe
    split at hwe
    · cases hwe
    · exact tsE_ok hwe
  have HRL : Hid (row.length = l.length) := hok.len
  obtain ⟨a, c, rfl, hc, hl⟩ := hq.slice
  obtain ⟨a', c', rfl, hc', hl'⟩ := hp.slice
  obtain ⟨a2, c2, rfl, hc2, hl2⟩ := hr.slice
  clear hp hq hr hwe hok hpb
  go_enter Try.func68, Try.ntmps68
  go_wp2
  go_loopw [12] (fun s wr => ∃ (i : Nat), s = .int .i64 (i : Int) ∧ i ≤ wh.length ∧ Hid (pasB ((wh.drop i).map (trp l)) row = r) ∧ Below w.heap.size w wr) (fun s _ => wh.length - (intOf s).toNat)
  case atStart => exact ⟨0, rfl, Nat.zero_le _, by simpa [Hid] using HPB.out, Below.refl _ _⟩
  case round =>
    obtain ⟨i, rfl, hi, HI, hbl⟩ := hrel
    have hsz := hbl.size
    by_cases h1 : i < wh.length
    · obtain ⟨b, o, nm, d, z, rfl, hb, hgt, e1, e2, e3, hn⟩ := HQ.out.get hB hbl h1
      have HST := pas_step (l := l) (row := row) hgt
      obtain ⟨hfs, hdo⟩ := HT.out _ (List.mem_of_getElem? hgt)
      obtain ⟨j, hj⟩ := Option.isSome_iff_exists.1 hfs
      simp only at hj hdo HST
      rw [hj, Option.getD_some, HI.out] at HST
      have HS : Hid (r = (tstB d z (row.getD j 0) && pasB ((wh.drop (i + 1)).map (trp l)) row)) := HST
      have hjl : j < row.length := by have := HRL.out; have := fnd_lt hj; omega
      have k1 := rcol_any B _ l nm (wr.alloc (.cells #[.string nm, .int .i64 d, .int .i64 z] 93)) (by simp; omega) ((HP.out.at hB hbl).at (by omega) (ba _ _)) (j : Int) (fnI_some hj)
      clear hgt HST hfs hj
      simp only [doB, decide_eq_true_eq] at hdo
      go_wp2_with fail
      refine k1.mono ?_
      rintro e w3 ⟨rfl, hb3⟩
      clear k1
      have hbw3 : Below w.heap.size w w3 := bt (bal hbl _) hb3
      obtain ⟨b2, o2, x, rfl, _, _, _, _, hgd, hcx⟩ := (HR.out.at hB hbw3).got hjl
      rw [hgd] at HS
      have t1 := ((Cl.new (w := wr) #[.string nm, .int .i64 d, .int .i64 z] 93 1 _ rfl rfl).at hb3).c
      have t2 := ((Cl.new (w := wr) #[.string nm, .int .i64 d, .int .i64 z] 93 2 _ rfl rfl).at hb3).c
      have hj1 : (0 : Int) ≤ (j : Int) := by omega
      have hj2 : (j : Int) < (row.length : Int) := by omega
      clear hgd hb3 e1 e2 e3
      rcases (show d = 1 ∨ d = 2 ∨ d = 3 ∨ d = 4 ∨ d = 5 ∨ d = 6 by omega) with rfl | rfl | rfl | rfl | rfl | rfl
      · by_cases ht : x = z
        · have HI2 : Hid (pasB ((wh.drop (i + 1)).map (trp l)) row = r) := by
            have := HS.out
            rw [show tstB 1 z x = true by simp [tstB]; omega, Bool.true_and] at this
            exact this.symm
          have g0 : (x == z) = true := by first | omega | (simp; omega)
          have g1 : (x != z) = false := by first | omega | (simp; omega)
          clear ht HS
          go_wp2
          go_roundw
          case rel => exact ⟨i + 1, by go_num, h1, HI2, hbw3⟩
          case measure => simp [intOf]; omega
        · obtain rfl : false = r := by
            have := HS.out
            rw [show tstB 1 z x = false by simp [tstB]; omega, Bool.false_and] at this
            exact this.symm
          have g0 : (x == z) = false := by first | omega | (simp; omega)
          have g1 : (x != z) = true := by first | omega | (simp; omega)
          clear ht HS
          go_wp2
          go_ret
          exact ⟨rfl, hbw3⟩
      · by_cases ht : x < z
        · have HI2 : Hid (pasB ((wh.drop (i + 1)).map (trp l)) row = r) := by
            have := HS.out
            rw [show tstB 2 z x = true by simp [tstB]; omega, Bool.true_and] at this
            exact this.symm
          have g0 : ¬ z ≤ x := by first | omega | (simp; omega)
          clear ht HS
          go_wp2
          go_roundw
          case rel => exact ⟨i + 1, by go_num, h1, HI2, hbw3⟩
          case measure => simp [intOf]; omega
        · obtain rfl : false = r := by
            have := HS.out
            rw [show tstB 2 z x = false by simp [tstB]; omega, Bool.false_and] at this
            exact this.symm
          have g0 : z ≤ x := by first | omega | (simp; omega)
          clear ht HS
          go_wp2
          go_ret
          exact ⟨rfl, hbw3⟩
      · by_cases ht : x ≤ z
        · have HI2 : Hid (pasB ((wh.drop (i + 1)).map (trp l)) row = r) := by
            have := HS.out
            rw [show tstB 3 z x = true by simp [tstB]; omega, Bool.true_and] at this
            exact this.symm
          have g0 : ¬ z < x := by first | omega | (simp; omega)
          clear ht HS
          go_wp2
          go_roundw
          case rel => exact ⟨i + 1, by go_num, h1, HI2, hbw3⟩
          case measure => simp [intOf]; omega
        · obtain rfl : false = r := by
            have := HS.out
            rw [show tstB 3 z x = false by simp [tstB]; omega, Bool.false_and] at this
            exact this.symm
          have g0 : z < x := by first | omega | (simp; omega)
          clear ht HS
          go_wp2
          go_ret
          exact ⟨rfl, hbw3⟩
      · by_cases ht : z < x
        · have HI2 : Hid (pasB ((wh.drop (i + 1)).map (trp l)) row = r) := by
            have := HS.out
            rw [show tstB 4 z x = true by simp [tstB]; omega, Bool.true_and] at this
            exact this.symm
          have g0 : ¬ x ≤ z := by first | omega | (simp; omega)
          clear ht HS
          go_wp2
          go_roundw
          case rel => exact ⟨i + 1, by go_num, h1, HI2, hbw3⟩
          case measure => simp [intOf]; omega
        · obtain rfl : false = r := by
            have := HS.out
            rw [show tstB 4 z x = false by simp [tstB]; omega, Bool.false_and] at this
            exact this.symm
          have g0 : x ≤ z := by first | omega | (simp; omega)
          clear ht HS
          go_wp2
          go_ret
          exact ⟨rfl, hbw3⟩
      · by_cases ht : z ≤ x
        · have HI2 : Hid (pasB ((wh.drop (i + 1)).map (trp l)) row = r) := by
            have := HS.out
            rw [show tstB 5 z x = true by simp [tstB]; omega, Bool.true_and] at this
            exact this.symm
          have g0 : ¬ x < z := by first | omega | (simp; omega)
          clear ht HS
          go_wp2
          go_roundw
          case rel => exact ⟨i + 1, by go_num, h1, HI2, hbw3⟩
          case measure => simp [intOf]; omega
        · obtain rfl : false = r := by
            have := HS.out
            rw [show tstB 5 z x = false by simp [tstB]; omega, Bool.false_and] at this
            exact this.symm
          have g0 : x < z := by first | omega | (simp; omega)
          clear ht HS
          go_wp2
          go_ret
          exact ⟨rfl, hbw3⟩
      · by_cases ht : ¬ x = z
        · have HI2 : Hid (pasB ((wh.drop (i + 1)).map (trp l)) row = r) := by
            have := HS.out
            rw [show tstB 6 z x = true by simp [tstB]; omega, Bool.true_and] at this
            exact this.symm
          have g0 : (x == z) = false := by first | omega | (simp; omega)
          clear ht HS
          go_wp2
          go_roundw
          case rel => exact ⟨i + 1, by go_num, h1, HI2, hbw3⟩
          case measure => simp [intOf]; omega
        · obtain rfl : false = r := by
            have := HS.out
            rw [show tstB 6 z x = false by simp [tstB]; omega, Bool.false_and] at this
            exact this.symm
          have g0 : (x == z) = true := by first | omega | (simp; omega)
          clear ht HS
          go_wp2
          go_ret
          exact ⟨rfl, hbw3⟩
    · obtain rfl : true = r := by have := HI.out; rw [List.drop_of_length_le (by omega)] at this; exact this
      go_wp2
      go_ret
      exact ⟨rfl, hbl⟩
end Go.Proofs.Ytejeiahbnnechaa
