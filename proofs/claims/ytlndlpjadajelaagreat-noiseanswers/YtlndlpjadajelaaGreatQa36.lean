import Derived.Test.YtlndlpjadajelaaGreatQa28
import Derived.Test.YtlndlpjadajelaaGreatQa35
import Derived.Deep.RegionHeld3
namespace Go.Proofs.YtlndlpjadajelaaGreat.K
open Go.RowKit Go.Proofs.YtlndlpjadajelaaGreat.K.Ds

set_option maxHeartbeats 400000 in
theorem rcol_any (B : Nat) (v : Value) (l : List Col) (s : ByteArray) (w : World) (hB : B ≤ w.heap.size) (hp : Cols w B v l) (r : Int) (hr : fnI l s = r) :
    Calls Tryz.prog 142 #[v, .string s] w fun e w' => e = .returned (.int .i64 r) ∧ Below w.heap.size w w' := by
  have HP : Hid (Cols w B v l) := hp
  have HR : Hid (fnI l s = r) := hr
  obtain ⟨a, c, rfl, hc, hl⟩ := hp.slice
  clear hr
  go_enter Tryz.func142, Tryz.ntmps142
  go_wp2
  go_loopw [9] (fun s' wr => ∃ (i : Nat), s' = .int .i64 (i : Int) ∧ i ≤ l.length ∧ Hid (NoC l s i) ∧ Below w.heap.size w wr) (fun s' _ => l.length - (intOf s').toNat)
  case atStart => exact ⟨0, rfl, Nat.zero_le _, fun j c hj => by omega, Below.refl _ _⟩
  case round =>
    obtain ⟨i, rfl, hi, HI, hbl⟩ := hrel
    by_cases h1 : i < l.length
    · obtain ⟨b, o, nm, sz, rfl, hb, hgt, c1, c2, hn⟩ := HP.out.get hB hbl h1
      have HG : Hid (l[i]? = some (nm, sz)) := hgt
      clear hgt
      have hq := str_eq nm s
      by_cases g1 : nm = s
      · have g1' : (nm.toList == s.toList) = true := by rw [hq]; simp [g1]
        obtain rfl : (i : Int) = r := by rw [← HR.out]; exact (fnI_some (fnd_hit HI.out HG.out g1)).symm
        clear hq g1
        go_wp2
        go_ret
        exact ⟨rfl, bal hbl _⟩
      · have g1' : (nm.toList == s.toList) = false := by rw [hq]; simp [g1]
        have HI2 : Hid (NoC l s (i + 1)) := HI.out.next HG.out g1
        clear hq g1
        go_wp2
        go_roundw
        case rel => exact ⟨i + 1, by go_num, h1, HI2, bal hbl _⟩
        case measure => simp [intOf]; omega
    · obtain rfl : -1 = r := by rw [← HR.out]; exact (fnI_none (fnd_no (by have := HI.out; rwa [show i = l.length by omega] at this))).symm
      go_wp2
      go_ret
      exact ⟨rfl, hbl⟩

set_option maxHeartbeats 1000000 in
theorem rtests_any (B : Nat) (lv v : Value) (l : List Col) (wh : List Tst) (w : World) (hB : B ≤ w.heap.size) (hp : Cols w B lv l) (hq : Tss w B v wh) (er : Int) (hr : whE l wh = er) :
    Calls Tryz.prog 182 #[lv, v] w fun e w' => e = .returned (.int .i64 er) ∧ Below w.heap.size w w' := by
  have HP : Hid (Cols w B lv l) := hp
  have HQ : Hid (Tss w B v wh) := hq
  have HR : Hid (whE l wh = er) := hr
  obtain ⟨a, c, rfl, hc, hl⟩ := hq.slice
  obtain ⟨a', c', rfl, hc', hl'⟩ := hp.slice
  clear hr
  go_enter Tryz.func182, Tryz.ntmps182
  by_cases h64 : 64 < wh.length
  · obtain rfl : 4 = er := by rw [← HR.out, whE, if_pos h64]
    have hle : (64 : Int) < (wh.length : Int) := by omega
    go_wp2
    go_ret
    exact ⟨rfl, Below.refl _ _⟩
  have HR2 : Hid (tsE l wh = er) := by have := HR.out; rwa [whE, if_neg h64] at this
  have hle : ¬ (64 : Int) < (wh.length : Int) := by omega
  go_wp2
  go_loopw [12] (fun s wr => ∃ (i : Nat), s = .int .i64 (i : Int) ∧ i ≤ wh.length ∧ Hid (tsE l (wh.drop i) = er) ∧ Below w.heap.size w wr) (fun s _ => wh.length - (intOf s).toNat)
  case atStart => exact ⟨0, rfl, Nat.zero_le _, by simpa [Hid] using HR2.out, Below.refl _ _⟩
  case round =>
    obtain ⟨i, rfl, hi, HI, hbl⟩ := hrel
    have hsz := hbl.size
    by_cases h1 : i < wh.length
    · obtain ⟨b, o, nm, d, z, rfl, hb, hgt, c1, c2, c3, hn⟩ := HQ.out.get hB hbl h1
      have HST : Hid (tsE l (wh.drop i) = if (fnd l nm).isSome then (if doB d then tsE l (wh.drop (i + 1)) else 1) else 7) := tsE_step hgt
      obtain ⟨fi, hfi⟩ : ∃ fi, fnI l nm = fi := ⟨_, rfl⟩
      have k1 := rcol_any B _ l nm (wr.alloc (.cells #[.string nm, .int .i64 d, .int .i64 z] 214)) (by simp; omega) ((HP.out.at hB hbl).at (by omega) (ba _ _)) fi hfi
      clear hgt
      go_wp2_with fail
      refine k1.mono ?_
      rintro e w3 ⟨rfl, hb3⟩
      clear k1
      have e1 : Cl w3 wr.heap.size 1 (.int .i64 d) := (Cl.new (w := wr) #[.string nm, .int .i64 d, .int .i64 z] 214 1 _ rfl rfl).at hb3
      have t1 := e1.c
      have hbw3 : Below w.heap.size w w3 := bt (bal hbl _) hb3
      by_cases hf : fi < 0
      · obtain rfl : 7 = er := by rw [← HI.out, HST.out, if_neg]; rw [← hfi] at hf; rw [fnI_neg.1 hf]; decide
        clear hfi
        go_wp2
        go_ret
        exact ⟨rfl, hbw3⟩
      · have HF : Hid ((fnd l nm).isSome = true) := by
          rw [← hfi] at hf
          cases hh : (fnd l nm).isSome with
          | true => rfl
          | false => exact absurd (fnI_neg.2 hh) hf
        clear hfi
        by_cases hd1 : d < 1
        · obtain rfl : 1 = er := by rw [← HI.out, HST.out, if_pos HF.out, if_neg]; simp [doB]; omega
          go_wp2
          go_ret
          exact ⟨rfl, hbw3⟩
        · by_cases hd2 : 6 < d
          · obtain rfl : 1 = er := by rw [← HI.out, HST.out, if_pos HF.out, if_neg]; simp [doB]; omega
            go_wp2
            go_ret
            exact ⟨rfl, hbw3⟩
          · have HI2 : Hid (tsE l (wh.drop (i + 1)) = er) := by have := HI.out; rwa [HST.out, if_pos HF.out, if_pos (by simp [doB]; omega)] at this
            go_wp2
            go_roundw
            case rel => exact ⟨i + 1, by go_num, h1, HI2, hbw3⟩
            case measure => simp [intOf]; omega
    · obtain rfl : 0 = er := by have := HI.out; rw [List.drop_of_length_le (by omega)] at this; exact this
      go_wp2
      go_ret
      exact ⟨rfl, hbl⟩

def ab (n : Int) : Int := if n < 0 then -n else n
theorem abs_any (n : Int) (hn : -9223372036854775807 ≤ n ∧ n ≤ 9223372036854775807) (w : World) : Calls Tryz.prog 185 #[.int .i64 n] w fun e w' => e = .returned (.int .i64 (ab n)) ∧ w' = w := by
  obtain ⟨h1, h2⟩ := hn
  go_enter Tryz.func185, Tryz.ntmps185
  by_cases h : n < 0
  · rw [ab, if_pos h]
    go_wp2
    go_ret
    exact ⟨rfl, rfl⟩
  · rw [ab, if_neg h]
    go_wp2
    go_ret
    exact ⟨rfl, rfl⟩
theorem greater_any (a b : Int) (w : World) : Calls Tryz.prog 184 #[.int .i64 a, .int .i64 b] w fun e w' => e = .returned (.int .i64 (mx a b)) ∧ w' = w := by
  go_enter Tryz.func184, Tryz.ntmps184
  by_cases h : b < a
  · rw [show mx a b = a by unfold mx; split <;> omega]
    go_wp2
    go_ret
    exact ⟨rfl, rfl⟩
  · rw [show mx a b = b by unfold mx; split <;> omega]
    go_wp2
    go_ret
    exact ⟨rfl, rfl⟩
theorem spn_ab {lo hi : Int} (h : wrtB lo hi = true) : mx (ab lo) (ab hi) = spn lo hi := by
  simp only [wrtB, decide_eq_true_eq] at h
  unfold mx ab spn
  repeat' split
  all_goals omega
theorem spn_ab1 {lo : Int} : ab lo = spn lo lo := by
  unfold ab spn
  repeat' split
  all_goals omega
theorem written_any (lo hi : Int) (w : World) (r : Bool) (hr : wrtB lo hi = r) : Calls Tryz.prog 183 #[.int .i64 lo, .int .i64 hi] w fun e w' => e = .returned (.bool r) ∧ w' = w := by
  go_enter Tryz.func183, Tryz.ntmps183
  by_cases h1 : -1048576 ≤ lo
  · by_cases h2 : lo ≤ hi
    · by_cases h3 : hi ≤ 1048576
      · obtain rfl : true = r := by rw [← hr]; simp [wrtB, h1, h2, h3]
        go_wp2
        go_ret
        exact ⟨rfl, rfl⟩
      · obtain rfl : false = r := by rw [← hr]; simp [wrtB, h1, h2, h3]
        have h4 : decide (hi ≤ 1048576) = false := decide_eq_false h3
        go_wp2
        go_ret
        exact ⟨by first | rfl | exact ret_b h4, rfl⟩
    · obtain rfl : false = r := by rw [← hr]; simp [wrtB, h1, h2]
      go_wp2
      go_ret
      exact ⟨rfl, rfl⟩
  · obtain rfl : false = r := by rw [← hr]; simp [wrtB, h1]
    go_wp2
    go_ret
    exact ⟨rfl, rfl⟩
theorem rkids_any (k : Int) (w : World) (n : Int) (hk : kidN k = n) : Calls Tryz.prog 141 #[.int .i64 k] w fun e w' => e = .returned (.int .i64 n) ∧ w' = w := by
  go_enter Tryz.func141, Tryz.ntmps141
  by_cases h1 : 1 ≤ k
  · by_cases h2 : k ≤ 3
    · obtain rfl : 0 = n := by rw [← hk, kidN, if_pos (by omega)]
      go_wp2
      go_ret
      exact ⟨rfl, rfl⟩
    by_cases h3 : k = 4
    · subst h3; subst hk; go_wp2; go_ret; exact ⟨rfl, rfl⟩
    by_cases h4 : k = 5
    · subst h4; subst hk; go_wp2; go_ret; exact ⟨rfl, rfl⟩
    by_cases h5 : k = 7
    · subst h5; subst hk; go_wp2; go_ret; exact ⟨rfl, rfl⟩
    have g3 : (k == 4) = false := by simpa using h3
    have g4 : (k == 5) = false := by simpa using h4
    have g5 : (k == 7) = false := by simpa using h5
    have h6 : 4 ≤ k := by omega
    by_cases h7 : k ≤ 10
    · obtain rfl : 1 = n := by rw [← hk, kidN, if_neg (by omega), if_pos (by omega)]
      go_wp2
      go_ret
      exact ⟨rfl, rfl⟩
    · obtain rfl : -1 = n := by rw [← hk, kidN, if_neg (by omega), if_neg (by omega), if_neg (by omega)]
      go_wp2
      go_ret
      exact ⟨rfl, rfl⟩
  · obtain rfl : -1 = n := by rw [← hk, kidN, if_neg (by omega), if_neg (by omega), if_neg (by omega)]
    have g3 : (k == 4) = false := by rw [beq_eq_false_iff_ne]; omega
    have g4 : (k == 5) = false := by rw [beq_eq_false_iff_ne]; omega
    have g5 : (k == 7) = false := by rw [beq_eq_false_iff_ne]; omega
    have h6 : ¬ 4 ≤ k := by omega
    go_wp2
    go_ret
    exact ⟨rfl, rfl⟩
end Go.Proofs.YtlndlpjadajelaaGreat.K

namespace Go.Proofs.YtlndlpjadajelaaGreat.K
open Go.RowKit Go.Proofs.YtlndlpjadajelaaGreat.K.Ds

theorem rinto_any (lo hi v : Int) (w : World) : Calls Tryz.prog 144 #[.int .i64 v, .int .i64 lo, .int .i64 hi] w fun e w' => e = .returned (.int .i64 (inT lo hi v)) ∧ w' = w := by
  go_enter Tryz.func144, Tryz.ntmps144
  by_cases c1 : v < lo
  · rw [inT, if_pos c1]
    go_wp2
    go_ret
    exact ⟨rfl, rfl⟩
  · by_cases c2 : hi < v
    · rw [inT, if_neg c1, if_pos c2]
      go_wp2
      go_ret
      exact ⟨rfl, rfl⟩
    · rw [inT, if_neg c1, if_neg c2]
      go_wp2
      go_ret
      exact ⟨rfl, rfl⟩
theorem pas_step {l : List Col} {wh : List Tst} {row : List Int} {i : Nat} {t : Tst} (h : wh[i]? = some t) : pasB ((wh.drop i).map (trp l)) row = (tstB t.2.1 t.2.2 (row.getD ((fnd l t.1).getD 0) 0) && pasB ((wh.drop (i + 1)).map (trp l)) row) := by
  rw [List.drop_eq_getElem_cons (List.getElem?_eq_some_iff.1 h).1, (List.getElem?_eq_some_iff.1 h).2]
  rfl

set_option maxHeartbeats 2000000 in
set_option maxRecDepth 100000 in
theorem rpasses_any (B nb : Nat) (lv v rv : Value) (l : List Col) (wh : List Tst) (row : List Int) (w : World) (hB : B ≤ w.heap.size) (hp : Cols w B lv l) (hq : Tss w B v wh) (hr : Ints w B nb rv row) (hwe : whE l wh = 0) (hok : RowOk l row) (r : Bool) (hpb : pasB (wh.map (trp l)) row = r) :
    Calls Tryz.prog 143 #[lv, v, rv] w fun e w' => e = .returned (.bool r) ∧ Below w.heap.size w w' := by
  have HP : Hid (Cols w B lv l) := hp
  have HQ : Hid (Tss w B v wh) := hq
  have HR : Hid (Ints w B nb rv row) := hr
  have HPB : Hid (pasB (wh.map (trp l)) row = r) := hpb
  have HT : Hid (∀ t ∈ wh, (fnd l t.1).isSome = true ∧ doB t.2.1 = true) := by
    unfold whE at hwe
    split at hwe
    · cases hwe
    · exact tsE_ok hwe
  have HRL : Hid (row.length = l.length) := hok.len
  obtain ⟨a, c, rfl, hc, hl⟩ := hq.slice
  obtain ⟨a', c', rfl, hc', hl'⟩ := hp.slice
  obtain ⟨a2, c2, rfl, hc2, hl2⟩ := hr.slice
  clear hp hq hr hwe hok hpb
  go_enter Tryz.func143, Tryz.ntmps143
  go_wp2
  go_loopw [12] (fun s wr => ∃ (i : Nat), s = .int .i64 (i : Int) ∧ i ≤ wh.length ∧ Hid (pasB ((wh.drop i).map (trp l)) row = r) ∧ Below w.heap.size w wr) (fun s _ => wh.length - (intOf s).toNat)
  case atStart => exact ⟨0, rfl, Nat.zero_le _, by simpa [Hid] using HPB.out, Below.refl _ _⟩
  case round =>
    obtain ⟨i, rfl, hi, HI, hbl⟩ := hrel
    have hsz := hbl.size
    by_cases h1 : i < wh.length
    · obtain ⟨b, o, nm, d, z, rfl, hb, hgt, e1, e2, e3, hn⟩ := HQ.out.get hB hbl h1
      have HST := pas_step (l := l) (row := row) hgt
      obtain ⟨hfs, hdo⟩ := HT.out _ (List.mem_of_getElem? hgt)
      obtain ⟨j, hj⟩ := Option.isSome_iff_exists.1 hfs
      simp only at hj hdo HST
      rw [hj, Option.getD_some, HI.out] at HST
      have HS : Hid (r = (tstB d z (row.getD j 0) && pasB ((wh.drop (i + 1)).map (trp l)) row)) := HST
      have hjl : j < row.length := by have := HRL.out; have := fnd_lt hj; omega
      have k1 := rcol_any B _ l nm (wr.alloc (.cells #[.string nm, .int .i64 d, .int .i64 z] 214)) (by simp; omega) ((HP.out.at hB hbl).at (by omega) (ba _ _)) (j : Int) (fnI_some hj)
      clear hgt HST hfs hj
      simp only [doB, decide_eq_true_eq] at hdo
      go_wp2_with fail
      refine k1.mono ?_
      rintro e w3 ⟨rfl, hb3⟩
      clear k1
      have hbw3 : Below w.heap.size w w3 := bt (bal hbl _) hb3
      obtain ⟨b2, o2, x, rfl, _, _, _, _, hgd, hcx⟩ := (HR.out.at hB hbw3).got hjl
      rw [hgd] at HS
      have t1 := ((Cl.new (w := wr) #[.string nm, .int .i64 d, .int .i64 z] 214 1 _ rfl rfl).at hb3).c
      have t2 := ((Cl.new (w := wr) #[.string nm, .int .i64 d, .int .i64 z] 214 2 _ rfl rfl).at hb3).c
      have hj1 : (0 : Int) ≤ (j : Int) := by omega
      have hj2 : (j : Int) < (row.length : Int) := by omega
      clear hgd hb3 e1 e2 e3
      rcases (show d = 1 ∨ d = 2 ∨ d = 3 ∨ d = 4 ∨ d = 5 ∨ d = 6 by omega) with rfl | rfl | rfl | rfl | rfl | rfl
      · by_cases ht : x = z
        · have HI2 : Hid (pasB ((wh.drop (i + 1)).map (trp l)) row = r) := by
            have := HS.out
            rw [show tstB 1 z x = true by simp [tstB]; omega, Bool.true_and] at this
            exact this.symm
          have g0 : (x == z) = true := by first | omega | (simp; omega)
          have g1 : (x != z) = false := by first | omega | (simp; omega)
          clear ht HS
          go_wp2
          go_roundw
          case rel => exact ⟨i + 1, by go_num, h1, HI2, hbw3⟩
          case measure => simp [intOf]; omega
        · obtain rfl : false = r := by
            have := HS.out
            rw [show tstB 1 z x = false by simp [tstB]; omega, Bool.false_and] at this
            exact this.symm
          have g0 : (x == z) = false := by first | omega | (simp; omega)
          have g1 : (x != z) = true := by first | omega | (simp; omega)
          clear ht HS
          go_wp2
          go_ret
          exact ⟨rfl, hbw3⟩
      · by_cases ht : x < z
        · have HI2 : Hid (pasB ((wh.drop (i + 1)).map (trp l)) row = r) := by
            have := HS.out
            rw [show tstB 2 z x = true by simp [tstB]; omega, Bool.true_and] at this
            exact this.symm
          have g0 : ¬ z ≤ x := by first | omega | (simp; omega)
          clear ht HS
          go_wp2
          go_roundw
          case rel => exact ⟨i + 1, by go_num, h1, HI2, hbw3⟩
          case measure => simp [intOf]; omega
        · obtain rfl : false = r := by
            have := HS.out
            rw [show tstB 2 z x = false by simp [tstB]; omega, Bool.false_and] at this
            exact this.symm
          have g0 : z ≤ x := by first | omega | (simp; omega)
          clear ht HS
          go_wp2
          go_ret
          exact ⟨rfl, hbw3⟩
      · by_cases ht : x ≤ z
        · have HI2 : Hid (pasB ((wh.drop (i + 1)).map (trp l)) row = r) := by
            have := HS.out
            rw [show tstB 3 z x = true by simp [tstB]; omega, Bool.true_and] at this
            exact this.symm
          have g0 : ¬ z < x := by first | omega | (simp; omega)
          clear ht HS
          go_wp2
          go_roundw
          case rel => exact ⟨i + 1, by go_num, h1, HI2, hbw3⟩
          case measure => simp [intOf]; omega
        · obtain rfl : false = r := by
            have := HS.out
            rw [show tstB 3 z x = false by simp [tstB]; omega, Bool.false_and] at this
            exact this.symm
          have g0 : z < x := by first | omega | (simp; omega)
          clear ht HS
          go_wp2
          go_ret
          exact ⟨rfl, hbw3⟩
      · by_cases ht : z < x
        · have HI2 : Hid (pasB ((wh.drop (i + 1)).map (trp l)) row = r) := by
            have := HS.out
            rw [show tstB 4 z x = true by simp [tstB]; omega, Bool.true_and] at this
            exact this.symm
          have g0 : ¬ x ≤ z := by first | omega | (simp; omega)
          clear ht HS
          go_wp2
          go_roundw
          case rel => exact ⟨i + 1, by go_num, h1, HI2, hbw3⟩
          case measure => simp [intOf]; omega
        · obtain rfl : false = r := by
            have := HS.out
            rw [show tstB 4 z x = false by simp [tstB]; omega, Bool.false_and] at this
            exact this.symm
          have g0 : x ≤ z := by first | omega | (simp; omega)
          clear ht HS
          go_wp2
          go_ret
          exact ⟨rfl, hbw3⟩
      · by_cases ht : z ≤ x
        · have HI2 : Hid (pasB ((wh.drop (i + 1)).map (trp l)) row = r) := by
            have := HS.out
            rw [show tstB 5 z x = true by simp [tstB]; omega, Bool.true_and] at this
            exact this.symm
          have g0 : ¬ x < z := by first | omega | (simp; omega)
          clear ht HS
          go_wp2
          go_roundw
          case rel => exact ⟨i + 1, by go_num, h1, HI2, hbw3⟩
          case measure => simp [intOf]; omega
        · obtain rfl : false = r := by
            have := HS.out
            rw [show tstB 5 z x = false by simp [tstB]; omega, Bool.false_and] at this
            exact this.symm
          have g0 : x < z := by first | omega | (simp; omega)
          clear ht HS
          go_wp2
          go_ret
          exact ⟨rfl, hbw3⟩
      · by_cases ht : ¬ x = z
        · have HI2 : Hid (pasB ((wh.drop (i + 1)).map (trp l)) row = r) := by
            have := HS.out
            rw [show tstB 6 z x = true by simp [tstB]; omega, Bool.true_and] at this
            exact this.symm
          have g0 : (x == z) = false := by first | omega | (simp; omega)
          clear ht HS
          go_wp2
          go_roundw
          case rel => exact ⟨i + 1, by go_num, h1, HI2, hbw3⟩
          case measure => simp [intOf]; omega
        · obtain rfl : false = r := by
            have := HS.out
            rw [show tstB 6 z x = false by simp [tstB]; omega, Bool.false_and] at this
            exact this.symm
          have g0 : (x == z) = true := by first | omega | (simp; omega)
          clear ht HS
          go_wp2
          go_ret
          exact ⟨rfl, hbw3⟩
    · obtain rfl : true = r := by have := HI.out; rw [List.drop_of_length_le (by omega)] at this; exact this
      go_wp2
      go_ret
      exact ⟨rfl, hbl⟩
end Go.Proofs.YtlndlpjadajelaaGreat.K
