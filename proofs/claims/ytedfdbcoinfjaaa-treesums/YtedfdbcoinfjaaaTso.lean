import Derived.Test.YtedfdbcoinfjaaaTto
namespace Go.Proofs.Ytedfdbcoinfjaaa
open Go.RowKit Go.Proofs.Ytedfdbcoinfjaaa.Ds

theorem ret_oi {a b : Int} {p q : Bool} (h1 : a = b) (h2 : p = q) : Ending.returned (.tuple #[.int .i64 a, .bool p]) = .returned (.tuple #[.int .i64 b, .bool q]) := by rw [h1, h2]

set_option maxRecDepth 100000 in
set_option maxHeartbeats 2000000 in
theorem toldOf_any (B : Nat) (v : Value) (ts : List Rw) (sl sa p m : Nat) (hsl : sl ≤ 10) (hsa : sa ≤ 1024) (hp : 2 ^ sl = p) (hm : (sa + 1) * p = m) (hm1 : 1 ≤ m) (hm2 : m ≤ 1024) (w : World) (hB : B ≤ w.heap.size) (hr : Rws w B v ts) (hmt : m ≤ ts.length) (oo : Option Int) (hoo : toT (rr ts) (sl, sa) = oo) :
    Calls Try.prog 16 #[.agg #[.int .i64 (sl : Int), .int .i64 (sa : Int)], v] w fun e w' => e = .returned (.tuple #[.int .i64 (oo.getD 0), .bool oo.isSome]) ∧ Below w.heap.size w w' := by
  have ka := fun W => last_any sl sa p m hsl hsa hp hm hm1 hm2 W
  obtain ⟨b, o, c, sa2, sc2, xs, rfl, hbB, hts, hxl, hcell, hnum⟩ := hr.get (i := m - 1) (by omega)
  have HTS : Hid (ts[m - 1]? = some (.slice sa2 xs.length sc2, xs)) := hts
  have hto : toT (rr ts) (sl, sa) = if xs.length ≤ sl ∨ xs.any badB = true then none else some (xs.getD sl 0) := toT_some (by show (rr ts)[(sa + 1) * 2 ^ sl - 1]? = _; rw [hp, hm]; exact rr_get hts)
  rw [hoo] at hto
  have HTO : Hid (oo = if xs.length ≤ sl ∨ xs.any badB = true then none else some (xs.getD sl 0)) := hto
  have HN : Hid (Num w B (.slice sa2 xs.length sc2) xs) := hnum
  have hcc : ∀ W, Below w.heap.size w W → W.cell? ⟨b, o + (m - 1), none⟩ = some (.slice sa2 xs.length sc2) := fun W hb => (hb.cell (p := ⟨b, o + (m - 1), none⟩) (by show b < _; omega)).trans hcell
  obtain ⟨_, _, e0, hc9, hts9⟩ := hr.slice
  obtain ⟨X, hX⟩ : ∃ X, w.alloc (.cells #[.int .i64 (sl : Int), .int .i64 (sa : Int)] 37) = X := ⟨_, rfl⟩
  have bX : Below w.heap.size w X := by rw [← hX]; exact ba _ _
  have TX : Hid (TwoB X w.heap.size (.int .i64 (sl : Int)) (.int .i64 (sa : Int))) := by rw [← hX]; exact TwoB.new _ _ _ 37 _ rfl
  obtain ⟨t0, t1, _, _, hlt⟩ := TX.out
  have hms : m - 1 < ts.length := by omega
  have hmi : ((m - 1 : Nat) : Int) < (ts.length : Int) := by omega
  obtain ⟨m1, hm9⟩ : ∃ m1, m - 1 = m1 := ⟨_, rfl⟩
  rw [hm9] at hms hmi
  simp only [hm9] at ka hcc
  clear hp hm hto hts hnum hcell hr hoo e0 hm9
  go_enter Try.func16, Try.ntmps16
  go_wp2_with fail
  refine (ka _).mono ?_
  rintro e1 w1 ⟨rfl, hb1⟩
  clear ka
  have B1 : Below w.heap.size w w1 := bt bX hb1
  have TX1 := TX.out.below hb1
  obtain ⟨s0, s1, _, _, hlt1⟩ := TX1
  have hcell := hcc w1 B1
  by_cases c1 : xs.length ≤ sl
  · obtain rfl : oo = none := by rw [HTO.out, if_pos (.inl c1)]
    have c1' : (sl : Int) ≥ (xs.length : Int) := by omega
    go_wp2
    go_ret2
    exact ⟨rfl, B1⟩
  · have c1' : ¬ (sl : Int) ≥ (xs.length : Int) := by omega
    obtain ⟨q, hq⟩ : ∃ q, xs.any badB = q := ⟨_, rfl⟩
    have kc := containsBad_any B _ xs w1 (HN.out.at hB B1) q hq
    cases q with
    | true =>
      obtain rfl : oo = none := by rw [HTO.out, if_pos (.inr hq)]
      clear hq
      go_wp2_with fail
      refine kc.mono ?_
      rintro e2 w2 ⟨rfl, rfl⟩
      go_wp2
      go_ret2
      exact ⟨rfl, B1⟩
    | false =>
      obtain ⟨b', o', c', x, he, hxc, _, hx, hcx⟩ := (HN.out.at hB B1).get (show sl < xs.length by omega)
      simp only [Value.slice.injEq] at he
      obtain ⟨rfl, _, rfl⟩ := he
      have hoo2 : oo = some x := by rw [HTO.out, if_neg (by rintro (h | h); exact c1 h; rw [hq] at h; cases h), List.getD, hx]; rfl
      subst hoo2
      have hbd := good_bd hq hx
      have hslx : (sl : Int) < (xs.length : Int) := by omega
      clear hq hx
      go_wp2_with fail
      refine kc.mono ?_
      rintro e2 w2 ⟨rfl, rfl⟩
      go_wp2
      go_ret2
      exact ⟨rfl, B1⟩

theorem toT_bd {tt : List (List Int)} {s : Sp} {x : Int} (h : toT tt s = some x) : -1073741824 ≤ x ∧ x ≤ 1073741824 := by
  unfold toT at h
  generalize tt.getD ((s.2 + 1) * 2 ^ s.1 - 1) [] = xs at h
  dsimp only at h
  by_cases c : xs.length ≤ s.1 ∨ xs.any badB = true
  · rw [if_pos c] at h; cases h
  · rw [if_neg c] at h
    have c2 : xs.any badB = false := by
      rcases hb : xs.any badB with _ | _
      · rfl
      · exact absurd (.inr hb) c
    obtain ⟨y, hy⟩ := get_lt (show s.1 < xs.length by omega)
    rw [List.getD, hy] at h
    simp at h
    subst h
    exact good_bd c2 hy
/-- So, of anything -/
def soR (h t : Int) (tt : List (List Int)) : Int × Int :=
  if 0 ≤ h ∧ h ≤ 10 ∧ 0 ≤ t ∧ t ≤ ((2 ^ h.toNat : Nat) : Int) then (if (tt.length : Int) < t then (0, 8) else soA tt (cov h.toNat t.toNat) 0) else (0, 3)
theorem soR_bad {h t : Int} {tt : List (List Int)} (hb : ¬ (0 ≤ h ∧ h ≤ 10) ∨ (∃ k : Nat, h = k ∧ k ≤ 10 ∧ (t < 0 ∨ ((2 ^ k : Nat) : Int) < t))) : soR h t tt = (0, 3) := by
  unfold soR
  rw [if_neg]
  rintro ⟨h1, h2, h3, h4⟩
  rcases hb with hb | ⟨k, rfl, hk, hb⟩
  · exact hb ⟨h1, h2⟩
  · rw [Int.toNat_natCast] at h4
    omega
theorem soR_ok {h t : Nat} {tt : List (List Int)} (hh : h ≤ 10) (ht : t ≤ 2 ^ h) : soR h t tt = if (tt.length : Int) < t then (0, 8) else soA tt (cov h t) 0 := by
  unfold soR
  rw [Int.toNat_natCast, Int.toNat_natCast, if_pos ⟨by omega, by omega, by omega, by exact_mod_cast ht⟩]
theorem so_cases (h t : Int) : (¬ (0 ≤ h ∧ h ≤ 10) ∨ (∃ k : Nat, h = k ∧ k ≤ 10 ∧ (t < 0 ∨ ((2 ^ k : Nat) : Int) < t))) ∨ ∃ k n : Nat, h = k ∧ t = n ∧ k ≤ 10 ∧ n ≤ 2 ^ k := by
  by_cases c : 0 ≤ h ∧ h ≤ 10
  · obtain ⟨k, rfl⟩ := Int.eq_ofNat_of_zero_le c.1
    by_cases c1 : t < 0
    · exact .inl (.inr ⟨k, rfl, by omega, .inl c1⟩)
    · obtain ⟨n, rfl⟩ := Int.eq_ofNat_of_zero_le (show 0 ≤ t by omega)
      by_cases c2 : n ≤ 2 ^ k
      · exact .inr ⟨k, n, rfl, rfl, by omega, c2⟩
      · exact .inl (.inr ⟨k, rfl, by omega, .inr (by exact_mod_cast Nat.lt_of_not_le c2)⟩)
  · exact .inl (.inl c)

set_option maxRecDepth 100000 in
set_option maxHeartbeats 4000000 in
theorem so_any (B : Nat) (v : Value) (ts : List Rw) (h t : Int) (w : World) (hB : B ≤ w.heap.size) (hr : Rws w B v ts) (n er : Int) (hne : soR h t (rr ts) = (n, er)) :
    Calls Try.prog 10 #[.int .i64 h, v, .int .i64 t] w fun e w' => e = .returned (.tuple #[.int .i64 n, .int .i64 er]) ∧ Below w.heap.size w w' := by
  obtain ⟨a, c, rfl, hc, hl⟩ := hr.slice
  rcases so_cases h t with hb | ⟨k, tn, rfl, rfl, hk, ht⟩
  · have kc := fun W => cover_bad h t hb W
    rw [soR_bad hb] at hne
    simp only [Prod.mk.injEq] at hne
    obtain ⟨rfl, rfl⟩ := hne
    clear hb
    go_enter Try.func10, Try.ntmps10
    go_wp2_with fail
    refine (kc _).mono ?_
    rintro e1 w1 ⟨rfl, rfl⟩
    go_wp2
    go_ret2
    exact ⟨rfl, Below.refl _ _⟩
  · have kc := fun W => cover_ok k tn hk ht W
    have ht4 : tn ≤ 1024 := Nat.le_trans ht (pow_le (Nat.le_refl _) hk)
    have HT : Hid (tn ≤ 2 ^ k) := ht
    rw [soR_ok hk ht, rr_len] at hne
    have HNE : Hid ((if (ts.length : Int) < (tn : Int) then ((0 : Int), (8 : Int)) else soA (rr ts) (cov k tn) 0) = (n, er)) := hne
    have HRW : Hid (Rws w B (.slice a ts.length c) ts) := hr
    have hll := (cov_gre ht).2.2
    obtain ⟨l, hlv⟩ : ∃ l, cov k tn = l := ⟨_, rfl⟩
    have HLV : Hid (cov k tn = l) := hlv
    rw [hlv] at hll
    simp only [hlv] at kc
    clear hne hr ht hlv
    by_cases c0 : ts.length < tn
    · have c0' : (ts.length : Int) < (tn : Int) := by omega
      have hne := HNE.out
      rw [if_pos c0'] at hne
      simp only [Prod.mk.injEq] at hne
      obtain ⟨rfl, rfl⟩ := hne
      go_enter Try.func10, Try.ntmps10
      go_wp2_with fail
      refine (kc _).mono ?_
      rintro e1 w1 ⟨cv, rfl, hrow, hb1⟩
      obtain ⟨ca, cc, rfl⟩ := row_slice hrow
      clear hrow
      go_wp2
      go_ret2
      exact ⟨rfl, hb1⟩
    · have c0' : ¬ (ts.length : Int) < (tn : Int) := by omega
      have HS : Hid (soA (rr ts) l 0 = (n, er)) := by
        have := HNE.out
        rw [if_neg c0', HLV.out] at this
        exact this
      clear HNE
      go_enter Try.func10, Try.ntmps10
      go_wp2_with fail
      refine (kc _).mono ?_
      rintro e1 w1 ⟨cv, rfl, hrow, hb1⟩
      obtain ⟨ca, cc, rfl⟩ := row_slice hrow
      have HR : Hid (w1.ownsRow w.heap.size 37 2 (.slice ca l.length cc) l.length (encP l)) := hrow
      clear hrow kc
      go_wp2_with fail
      go_loopw [10, 30] (fun sv s wr => ∃ (i : Nat) (z : Int), s = .int .i64 (i : Int) ∧ sv = .int .i64 z ∧ i ≤ l.length ∧ -1073741824 * (i : Int) ≤ z ∧ z ≤ 1073741824 * (i : Int) ∧ Hid (soA (rr ts) (l.drop i) z = (n, er)) ∧ Below w1.heap.size w1 wr) (fun _ s _ => l.length - (intOf s).toNat)
      case atStart => exact ⟨0, 0, rfl, rfl, Nat.zero_le _, by simp, by simp, HS, Below.refl _ _⟩
      case round =>
        obtain ⟨i, z, rfl, rfl, hi, hz1, hz2, HI, hbr⟩ := hrel
        by_cases h1 : i < l.length
        · obtain ⟨⟨sl, sa⟩, hs⟩ := get_lt h1
          have hg := encP_get hs
          have hr := row_gb HR.out (gb_none hbr) (by simp)
          obtain ⟨g, rfl, _, _, k0⟩ := row_cell hr hg.1
          obtain ⟨g', e', _, _, k1⟩ := row_cell hr hg.2
          simp only [Option.some.injEq, Addr.mk.injEq, and_true] at e'
          subst e'
          obtain ⟨d1, d2, d3, d4, d5, d6, _⟩ := cov_at hk HT.out (by rw [HLV.out]; exact hs)
          simp only at d1 d2 d3 d4 d5
          obtain ⟨oo, hoo⟩ : ∃ oo, toT (rr ts) (sl, sa) = oo := ⟨_, rfl⟩
          have BW : Below w.heap.size w wr := bt hb1 hbr
          obtain ⟨X, hX⟩ : ∃ X, wr.alloc (.cells #[.int .i64 (sl : Int), .int .i64 (sa : Int)] 37) = X := ⟨_, rfl⟩
          have bX : Below wr.heap.size wr X := by rw [← hX]; exact ba _ _
          have TX : Hid (TwoB X wr.heap.size (.int .i64 (sl : Int)) (.int .i64 (sa : Int))) := by rw [← hX]; exact TwoB.new _ _ _ 37 _ rfl
          obtain ⟨t0, t1, _, _, hlt⟩ := TX.out
          have hBX : B ≤ X.heap.size := by have := (bt BW bX).size; omega
          have kt := toldOf_any B _ ts sl sa _ _ d1 d2 rfl rfl d4 (by omega) X hBX (HRW.out.at hB (bt BW bX)) (by omega) oo hoo
          have z1 : (i : Int) < (l.length : Int) := by omega
          clear hg hr
          cases oo with
          | none =>
            have hne := HI.out
            rw [soA_none hs hoo] at hne
            simp only [Prod.mk.injEq] at hne
            obtain ⟨rfl, rfl⟩ := hne
            clear hs hoo d3 d4 d5
            go_wp2_with fail
            refine kt.mono ?_
            rintro e5 w5 ⟨rfl, hb5⟩
            go_wp2
            go_ret2
            exact ⟨rfl, bt (bt BW bX) hb5⟩
          | some x =>
            have HI2 : Hid (soA (rr ts) (l.drop (i + 1)) (z + x) = (n, er)) := by rw [Hid, ← soA_some hs hoo]; exact HI.out
            have hbd : -1073741824 ≤ x ∧ x ≤ 1073741824 := toT_bd hoo
            clear hs hoo d3 d4 d5
            go_wp2_with fail
            refine kt.mono ?_
            rintro e5 w5 ⟨rfl, hb5⟩
            clear kt
            go_wp2
            go_roundw
            case rel => exact ⟨i + 1, z + x, by go_num, by go_num, by omega, by omega, by omega, HI2, bt (bt hbr bX) hb5⟩
            case measure => simp [intOf]; omega
        · obtain rfl : i = l.length := by omega
          have hne := HI.out
          rw [List.drop_length] at hne
          simp only [soA, Prod.mk.injEq] at hne
          obtain ⟨rfl, rfl⟩ := hne
          go_wp2
          go_ret2
          exact ⟨rfl, bt hb1 hbr⟩
end Go.Proofs.Ytedfdbcoinfjaaa
