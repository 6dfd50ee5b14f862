import Derived.Test.YtjembpcpefgdpaaDoorQc44
namespace Go.Proofs.YtjembpcpefgdpaaDoor
open Go.RowKit Go.Proofs.YtjembpcpefgdpaaDoor.Ds

/-- what the reference's Step answers -/
def StepR (w : World) (l : List (List Pt)) (er : Int) (e : Ending) (w' : World) : Prop :=
  ∃ v ys, e = .returned (.tuple #[v, .int .i64 er]) ∧ rds ys = l ∧ Dss w' w'.heap.size v ys ∧ ys.length ≤ 11 ∧ Below w.heap.size w w'
theorem StepR.nil {w w' : World} {er : Int} (hb : Below w.heap.size w w') : StepR w [] er (.returned (.tuple #[.slice none 0 0, .int .i64 er])) w' := ⟨_, [], rfl, rfl, dss_nil _, by simp, hb⟩
theorem take_sum {L : List Int} {i : Nat} {x : Int} (h : L[i]? = some x) : (L.take (i + 1)).sum = (L.take i).sum + x := by
  rw [List.take_add_one, h]; simp
theorem pow_le10 {k : Nat} (hk : k ≤ 10) : 2 ^ k ≤ 1024 := by
  have : 2 ^ k ≤ 2 ^ 10 := Nat.pow_le_pow_right (by decide) hk
  simpa using this

set_option maxRecDepth 100000 in
set_option maxHeartbeats 2000000 in
theorem rstepState_any (k : Nat) (u d lo hi : Int) (v : Value) (B nb : Nat) (came : List Int) (item : Int) (w : World) (hv : Ints w B nb v came) (hk : k ≤ 10) (ht : 2 ^ k ≤ came.length) :
    Calls Tryd.prog 7 #[.int .i64 (k : Int), rv u d, .int .i64 lo, .int .i64 hi, v, .int .i64 item] w (StepR w [] 9) := by
  have kl := fun W => long_any k (by omega) W
  obtain ⟨va, vc, rfl, _⟩ := hv
  obtain ⟨q, hq⟩ : ∃ q, 2 ^ k = q := ⟨_, rfl⟩
  simp only [hq] at kl
  rw [hq] at ht
  have ht' : (came.length : Int) ≥ (q : Int) := by omega
  clear hq
  go_enter Tryd.func7, Tryd.ntmps7
  go_wp2_with fail
  refine (kl _).mono ?_
  rintro e1 w1 ⟨rfl, rfl⟩
  go_wp2
  go_ret2
  exact StepR.nil (ba _ _)

set_option maxRecDepth 100000 in
set_option maxHeartbeats 2000000 in
theorem rstepRange_any (k : Nat) (u d lo hi : Int) (v : Value) (B nb : Nat) (came : List Int) (item : Int) (w : World) (hv : Ints w B nb v came) (hk : k ≤ 10) (ht : ¬ 2 ^ k ≤ came.length) (hi0 : item < 0 ∨ (¬ item < 0 ∧ item > 1048576)) :
    Calls Tryd.prog 7 #[.int .i64 (k : Int), rv u d, .int .i64 lo, .int .i64 hi, v, .int .i64 item] w (StepR w [] 3) := by
  have kl := fun W => long_any k (by omega) W
  obtain ⟨va, vc, rfl, _⟩ := hv
  obtain ⟨q, hq⟩ : ∃ q, 2 ^ k = q := ⟨_, rfl⟩
  simp only [hq] at kl
  rw [hq] at ht
  have ht' : ¬ (came.length : Int) ≥ (q : Int) := by omega
  clear hq
  rcases hi0 with hi0 | ⟨hi0, hi1⟩
  all_goals
    go_enter Tryd.func7, Tryd.ntmps7
    go_wp2_with fail
    refine (kl _).mono ?_
    rintro e1 w1 ⟨rfl, rfl⟩
    go_wp2
    go_ret2
    exact StepR.nil (ba _ _)

set_option maxRecDepth 100000 in
set_option maxHeartbeats 8000000 in
theorem rstepGood_any (k : Nat) (u d lo hi : Int) (v : Value) (B nb : Nat) (came : List Int) (item : Int) (w : World) (hB : B ≤ w.heap.size) (hv : Ints w B nb v came) (hk : k ≤ 10) (ht : ¬ 2 ^ k ≤ came.length) (hi0 : ¬ item < 0) (hi1 : ¬ item > 1048576) (hc : Cam k came) (hh : (hideT u d lo hi 0).2 = 0) :
    Calls Tryd.prog 7 #[.int .i64 (k : Int), rv u d, .int .i64 lo, .int .i64 hi, v, .int .i64 item] w (StepR w ((List.range (enT came.length)).map fun l => (hideT u d lo hi (lastS (came ++ [item]) (2 ^ l))).1) 0) := by
  have kl := fun W => long_any k (by omega) W
  have HV : Hid (Ints w B nb v came) := hv
  obtain ⟨va, vc, rfl, _⟩ := hv
  obtain ⟨q, hq⟩ : ∃ q, 2 ^ k = q := ⟨_, rfl⟩
  have hq4 : q ≤ 1024 := by rw [← hq]; exact pow_le10 hk
  simp only [hq] at kl
  have hen := enT_le came.length k (by omega) (by omega)
  rw [hq] at ht
  have ht' : ¬ (came.length : Int) ≥ (q : Int) := by omega
  have hen64 : came.length + 1 < 2 ^ 64 := by omega
  obtain ⟨n, hn⟩ : ∃ n, enT came.length = n := ⟨_, rfl⟩
  rw [hn] at hen
  have hn1 : 1 ≤ n := by rw [← hn]; exact enT_pos _
  have HEN : Hid (∀ l, (came.length + 1) % 2 ^ l = 0 ↔ l < n) := fun l => by rw [← hn]; exact enT_dvd _ l hen64
  have HCB : Hid (∀ (i : Nat) x, (came ++ [item])[i]? = some x → 0 ≤ x ∧ x ≤ 1048576) := by
    intro i x hx
    rcases List.mem_append.1 (List.mem_of_getElem? hx) with h | h
    · exact hc.bd x h
    · obtain rfl := List.mem_singleton.1 h; omega
  have HHH : Hid ((hideT u d lo hi 0).2 = 0) := hh
  rw [hn]
  obtain ⟨all, hall⟩ : ∃ all, came ++ [item] = all := ⟨_, rfl⟩
  rw [hall] at HCB ⊢
  have HALL : Hid (came ++ [item] = all) := hall
  obtain ⟨m, hm⟩ : ∃ m, came.length + 1 = m := ⟨_, rfl⟩
  have hml : Hid (all.length = m) := by rw [Hid, ← hall, ← hm]; simp
  have hm4 : m ≤ 1025 := by omega
  have hm1 : 1 ≤ m := by omega
  have HM : Hid (came.length + 1 = m) := hm
  have hcl : came.length ≤ 1024 := by omega
  rw [hm] at HEN
  obtain ⟨i0, hi3, hz0, hz1, hz2⟩ := info_parts info3
  obtain ⟨i1, hi43, hy0, hy1, hy2⟩ := info_parts info26
  obtain ⟨X, hX⟩ : ∃ X, w.alloc (.cells #[.int .i64 u, .int .i64 d] 23) = X := ⟨_, rfl⟩
  have bX : Below w.heap.size w X := by rw [← hX]; exact ba _ _
  have hsX : Hid (X.heap.size = w.heap.size + 1) := by rw [Hid, ← hX]; simp
  have xc0 : X.cell? ⟨w.heap.size, 0, none⟩ = some (.int .i64 u) := by rw [← hX]; simp [go_sem]
  have xc1 : X.cell? ⟨w.heap.size, 1, none⟩ = some (.int .i64 d) := by rw [← hX]; simp [go_sem]
  have HZ : Hid ((X.alloc (.cells #[] 3)).ownsRow X.heap.size 3 1 (.slice (some ⟨X.heap.size, 0, none⟩) 0 0) 0 (([] : List Int).map (Value.int .i64))) := owns_zero X X.heap.size (Nat.le_refl _)
  have HV2 : Hid (Ints (X.alloc (.cells #[] 3)) B nb (.slice va came.length vc) came) := HV.out.keep ((bt bX (ba _ _)).mono hB)
  clear hq hn hc hh hall hm hen64
  go_enter Tryd.func7, Tryd.ntmps7
  go_wp2_with fail
  refine (kl _).mono ?_
  rintro e1 w1 ⟨rfl, hw1⟩
  have hwy := hw1.symm
  subst hwy
  clear hw1 kl
  go_wp2_with (at_builtin; refine wpList_app_nums _ rfl _ _ rfl X.heap.size B nb 0 (some ⟨X.heap.size, 0, none⟩) 0 [] came rfl HZ.out (.slice va came.length vc) rfl HV2.out (by omega) (by simp) came.length (by omega) ?_)
  intro a' c' w2 ho2 hg2 ha2
  have b2 : Below X.heap.size X w2 := (ba X _).grown hg2 (by simp) (by intro y hy; simp [Value.ownBlock] at hy; omega)
  have HO2 : Hid ((w2.alloc (.cells #[.int .i64 item] 3)).ownsRow X.heap.size 3 1 (.slice a' came.length c') came.length (came.map (Value.int .i64))) := row_gb (by simpa using ho2) (gb_none (ba _ _)) (by simp)
  have hl2 : ∀ y, (Value.slice a' came.length c').ownBlock = some y → X.heap.size ≤ y := fun y e => (row_lt HO2.out e).1
  have HL2 : Hid (∀ y, (Value.slice a' came.length c').ownBlock = some y → X.heap.size ≤ y) := hl2
  have hs2 := b2.size
  clear ho2 hg2 ha2 hl2 HZ HV2
  go_wp2_with (at_builtin; refine wpList_append_own_at _ rfl _ _ 24 rfl X.heap.size 3 i0 (.int .i64 0) 1 8 Tryd.underlying24 hi3 hz0 hz1 hz2 rfl (by decide) (.slice a' came.length c') came.length (came.map (Value.int .i64)) rfl HO2.out ⟨w2.heap.size, 0, none⟩ 1 1 [.int .i64 item] rfl rfl (one_cells w2 _ _ _ rfl) (by intro z hz; simp at hz; subst hz; rfl) (by unfold maxLen; omega) (by omega) (by simp; omega) ?_)
  intro nv w3 ho3 hg3 hnil hat
  have b3 : Below X.heap.size X w3 := (b2.alloc hs2 _).grown hg3 (by simp; omega) HL2.out
  obtain ⟨na, nc, rfl⟩ := row_slice ho3
  have HO3 : Hid (w3.ownsRow X.heap.size 3 1 (.slice na m nc) m (all.map (Value.int .i64))) := by
    rw [Hid, ← HALL.out, List.map_append, ← HM.out]; exact ho3
  obtain ⟨g, rfl, hg1, hg2, _⟩ := row_cell HO3.out (j := 0) (u := .int .i64 (all.getD 0 0)) (by
    obtain ⟨y, hy⟩ := get_lt (l := all) (i := 0) (by rw [hml.out]; omega)
    simp [hy])
  have HCL : Hid (∀ W, Below w3.heap.size w3 W → ∀ (i : Nat) x, all[i]? = some x → W.cell? ⟨g, i, none⟩ = some (.int .i64 x)) := by
    intro W hW i x hx
    have h3 := row_gb HO3.out (gb_none hW) (by simp)
    obtain ⟨g', e', _, _, h4⟩ := row_cell h3 (j := i) (u := .int .i64 x) (by simp [hx])
    simp only [Option.some.injEq, Addr.mk.injEq, and_true] at e'
    subst e'
    exact h4
  have hmc : m ≤ nc := owns_le HO3.out
  have hs3 := b3.size
  have XC : Hid (∀ W, Below w3.heap.size w3 W → W.cell? ⟨w.heap.size, 0, none⟩ = some (.int .i64 u) ∧ W.cell? ⟨w.heap.size, 1, none⟩ = some (.int .i64 d)) := by
    intro W hW
    have h1 : w.heap.size < X.heap.size := by have := hsX.out; omega
    exact ⟨(hW.cell (p := ⟨w.heap.size, 0, none⟩) (by show w.heap.size < w3.heap.size; omega)).trans ((b3.cell (p := ⟨w.heap.size, 0, none⟩) h1).trans xc0), (hW.cell (p := ⟨w.heap.size, 1, none⟩) (by show w.heap.size < w3.heap.size; omega)).trans ((b3.cell (p := ⟨w.heap.size, 1, none⟩) h1).trans xc1)⟩
  have BW3 : Below w.heap.size w w3 := bt bX b3
  have hml2 := HM.out
  simp only [hml2]
  clear hml2
  clear ho3 hg3 hnil hat HO2 HL2 xc0 xc1
  go_wp2_with fail
  go_loopw [15, 16] (fun ov sv wr => ∃ (j oc : Nat) (oa : Option Addr) (ys : List Dz), sv = .int .i64 (j : Int) ∧ ov = .slice oa j oc ∧ j ≤ n ∧ Hid (ys.length = j) ∧ Hid (Dsr wr w3.heap.size (.slice oa j oc) ys) ∧ Hid (rds ys = (List.range j).map fun l => (hideT u d lo hi (lastS all (2 ^ l))).1) ∧ Below w3.heap.size w3 wr) (fun _ sv _ => n + 1 - (intOf sv).toNat)
  case atStart => exact ⟨0, 0, none, [], rfl, rfl, Nat.zero_le _, rfl, Dsr.nil _ _, rfl, Below.refl _ _⟩
  case round =>
    obtain ⟨j, oc, oa, ys, rfl, rfl, hj, HJL, HD, HR, hbl⟩ := hrel
    have hrs := hbl.size
    by_cases hjn : j < n
    · have hjk : j ≤ k := by omega
      have z1 : (j : Int) ≤ (k : Int) := by omega
      have kl := fun W => long_any j (by omega) W
      obtain ⟨p, hp⟩ : ∃ p, 2 ^ j = p := ⟨_, rfl⟩
      have hp0 : 0 < p := by rw [← hp]; exact Nat.two_pow_pos _
      have HP : Hid (2 ^ j = p) := hp
      simp only [hp] at kl
      have hdm : m % p = 0 := by rw [← hp]; exact (HEN.out j).2 hjn
      have hpm : p ≤ m := Nat.le_of_dvd (by omega) (Nat.dvd_of_mod_eq_zero hdm)
      have hpi : (p : Int) ≠ 0 := by omega
      have hmi : (m : Int) % (p : Int) = 0 := by rw [← Int.natCast_emod, hdm]; rfl
      obtain ⟨q0, hq0⟩ : ∃ q0, m - p = q0 := ⟨_, rfl⟩
      have hqm : (m : Int) - (p : Int) = (q0 : Int) := by omega
      have hq1 : (q0 : Int) ≤ (m : Int) := by omega
      have hq2 : (0 : Int) ≤ (q0 : Int) := by omega
      have hq3 : m - q0 = p := by omega
      have HQ0 : Hid (m - p = q0) := hq0
      obtain ⟨w4, hw4⟩ : ∃ w4, w4 = wr := ⟨_, rfl⟩
      subst hw4
      clear hp hdm hq0
      go_wp2_with fail
      refine (kl _).mono ?_
      rintro e3 w9 ⟨rfl, hw9⟩
      have hwy := hw9.symm
      subst hwy
      clear hw9
      go_wp2_with fail
      refine (kl _).mono ?_
      rintro e3 w9 ⟨rfl, hw9⟩
      have hwy := hw9.symm
      subst hwy
      clear hw9 kl
      go_wp2_with fail
      go_loopw [17, 58] (fun sv iv wr2 => ∃ (i : Nat) (z : Int), iv = .int .i64 (i : Int) ∧ sv = .int .i64 z ∧ i ≤ p ∧ 0 ≤ z ∧ z ≤ 1048576 * (i : Int) ∧ Hid (((all.drop q0).take i).sum = z) ∧ wr2 = w4) (fun _ iv _ => p - (intOf iv).toNat)
      case atStart => exact ⟨0, 0, rfl, rfl, Nat.zero_le _, Int.le_refl _, by simp, by simp [Hid], rfl⟩
      case round =>
        obtain ⟨i, z, rfl, rfl, hip, hz1', hz2', HZS, hwr⟩ := hrel
        have hwy := hwr.symm
        subst hwy
        clear hwr
        by_cases h1 : i < p
        · obtain ⟨x, hx⟩ := get_lt (l := all) (i := q0 + i) (by rw [hml.out]; omega)
          have hcx := HCL.out w4 hbl (q0 + i) x hx
          have hbx := HCB.out (q0 + i) x hx
          have HZ2 : Hid (((all.drop q0).take (i + 1)).sum = z + x) := by
            rw [Hid, take_sum (x := x) (by rw [List.getElem?_drop]; exact hx), HZS.out]
          have z3 : (i : Int) < (p : Int) := by omega
          clear hx
          go_wp2
          go_roundw
          case rel => exact ⟨i + 1, z + x, by go_num, by go_num, by omega, by omega, by omega, HZ2, by first | rfl | trivial⟩
          case measure => simp [intOf]; omega
        · have hip2 : i = p := by omega
          have hzl : z = lastS all (2 ^ j) := by
            have h1 := HZS.out
            rw [List.take_of_length_le (by rw [List.length_drop, hml.out]; omega)] at h1
            rw [← h1, HP.out]
            unfold lastS
            rw [hml.out, HQ0.out]
          obtain ⟨lD, hlD⟩ : ∃ lD, (hideT u d lo hi z).1 = lD := ⟨_, rfl⟩
          have kh := rhide_any u d lo hi z lD 0 (Prod.ext hlD (hide_zero HHH.out z)) w4
          have HRD : Hid (rds ys ++ [lD] = (List.range (j + 1)).map fun l => (hideT u d lo hi (lastS all (2 ^ l))).1) := by
            rw [Hid, List.range_succ, List.map_append, HR.out, ← hlD, hzl]; rfl
          obtain ⟨x0, x1⟩ := XC.out w4 hbl
          have z3 : ¬ (i : Int) < (p : Int) := by omega
          have HIP : Hid (i = p) := hip2
          clear hzl hlD hip2
          go_wp2_with fail
          refine kh.mono ?_
          rintro e5 w5 ⟨dv, us, rfl, k1, k2, k3, k4⟩
          obtain ⟨da, dc, rfl⟩ := k2.slice
          have hs5 := k3.size
          have hHD := HD.out
          have hpos : 0 < w4.heap.size := by omega
          obtain ⟨mm, hmm1, hmm2⟩ : ∃ mm, mm < w4.heap.size ∧ ∀ y, (Value.slice oa j oc).ownBlock = some y → mm = y := by
            cases e : (Value.slice oa j oc).ownBlock with
            | none => exact ⟨0, hpos, fun y e => by cases e⟩
            | some y => exact ⟨y, (hHD.lt y e).2, fun y' e => by simpa using e⟩
          have HW5 : Hid (Dsr (w5.alloc (.cells #[.slice da us.length dc] 43)) w3.heap.size (.slice oa j oc) ys) := hHD.keep (bt k3 (ba _ _))
          have HPN : Hid (PartsN (w5.alloc (.cells #[.slice da us.length dc] 43)) (w5.alloc (.cells #[.slice da us.length dc] 43)).heap.size mm (.slice da us.length dc) us) := (own_away k2 k4 hmm1).at2 (ba _ _)
          have HOW : Hid ((w5.alloc (.cells #[.slice da us.length dc] 43)).ownsRow w3.heap.size 43 1 (.slice oa j oc) j (ys.map (·.1))) := by have h := HW5.out.1; rw [HJL.out] at h; exact h
          have HMM : Hid (∀ y, (Value.slice oa j oc).ownBlock = some y → mm = y) := hmm2
          have HK1 : Hid (rd us = lD) := k1
          have b5 : Below w3.heap.size w3 w5 := bt hbl k3
          have hs35 := b5.size
          clear kh k1 k2 k3 k4 hHD hmm2 HD
          go_wp2_with (at_builtin; refine wpList_append_own_at _ rfl _ _ 33 rfl w3.heap.size 43 i1 (.slice none 0 0) 1 24 Tryd.underlying33 hi43 hy0 hy1 hy2 rfl (by decide) (.slice oa j oc) j (ys.map (·.1)) rfl HOW.out ⟨w5.heap.size, 0, none⟩ 1 1 [.slice da us.length dc] rfl rfl (one_cells w5 _ _ _ rfl) (by intro z hz; simp at hz; subst hz; rfl) (by unfold maxLen; omega) (by omega) (by simp; omega) ?_)
          intro nv w6 ho6 hg6 hnil6 hat6
          have b6 : Below w3.heap.size w3 w6 := (b5.alloc hs35 _).grown hg6 (by simp; omega) (fun y e => (HW5.out.lt y e).1)
          obtain ⟨oa', oc', rfl⟩ := row_slice ho6
          have HD6 : Hid (Dsr w6 w3.heap.size (.slice oa' (j + 1) oc') (ys ++ [(.slice da us.length dc, us)])) := HW5.out.app (n := (.slice da us.length dc, us)) (by rw [HJL.out]; exact ho6) hg6 (by simpa using hat6) HPN.out HMM.out
          have HR6 : Hid (rds (ys ++ [((.slice da us.length dc, us) : Dz)]) = (List.range (j + 1)).map fun l => (hideT u d lo hi (lastS all (2 ^ l))).1) := by
            rw [Hid, ← HRD.out, ← HK1.out]; simp [rds]
          have HJ6 : Hid ((ys ++ [((.slice da us.length dc, us) : Dz)]).length = j + 1) := by rw [Hid, List.length_append, HJL.out]; rfl
          clear ho6 hg6 hnil6 hat6 HW5 HPN HOW
          go_wp2
          go_roundw
          case rel => exact ⟨j + 1, oc', oa', ys ++ [(.slice da us.length dc, us)], by go_num, rfl, by omega, HJ6, HD6, HR6, b6⟩
          case measure => simp [intOf]; omega
    · have hjn2 : j = n := by omega
      have POST : Hid (StepR w ((List.range n).map fun l => (hideT u d lo hi (lastS all (2 ^ l))).1) 0 (.returned (.tuple #[.slice oa j oc, .int .i64 0])) wr) := ⟨_, ys, rfl, by rw [HR.out, hjn2], HD.out.dss (by rw [HJL.out]; omega), by rw [HJL.out]; omega, bt BW3 hbl⟩
      by_cases hjk : j ≤ k
      · have z1 : (j : Int) ≤ (k : Int) := by omega
        have kl := fun W => long_any j (by omega) W
        obtain ⟨p, hp⟩ : ∃ p, 2 ^ j = p := ⟨_, rfl⟩
        have hp0 : 0 < p := by rw [← hp]; exact Nat.two_pow_pos _
        simp only [hp] at kl
        have hpi : (p : Int) ≠ 0 := by omega
        obtain ⟨r, hr⟩ : ∃ r, m % p = r := ⟨_, rfl⟩
        have hr0 : r ≠ 0 := by
          intro e
          rw [e, ← hp] at hr
          have := (HEN.out j).1 hr
          omega
        have hrp : r < p := by rw [← hr]; exact Nat.mod_lt _ hp0
        have hp4 : p ≤ 1024 := by rw [← hp]; exact pow_le10 (by omega)
        have hri : (m : Int) % (p : Int) = (r : Int) := by rw [← Int.natCast_emod, hr]
        have hrn : ((r : Int) != 0) = true := by simp; omega
        have hrn2 : ¬ (r : Int) = 0 := by omega
        clear hp hr hjn2
        go_wp2_with fail
        refine (kl _).mono ?_
        rintro e3 w9 ⟨rfl, hw9⟩
        have hwy := hw9.symm
        subst hwy
        clear hw9 kl
        go_wp2
        go_ret2
        exact POST.out
      · have z1 : ¬ (j : Int) ≤ (k : Int) := by omega
        clear hjn2
        go_wp2
        go_ret2
        exact POST.out

/-- THE REFERENCE's STEP, of anything -/
theorem rstep_any (k : Nat) (u d lo hi : Int) (v : Value) (B nb : Nat) (came : List Int) (item : Int) (w : World) (hB : B ≤ w.heap.size) (hv : Ints w B nb v came) (hk : k ≤ 10) (hc : Cam k came) (hh : (hideT u d lo hi 0).2 = 0) (l : List (List Pt)) (er : Int) (hr : stT k u d lo hi came item = (l, er)) :
    Calls Tryd.prog 7 #[.int .i64 (k : Int), rv u d, .int .i64 lo, .int .i64 hi, v, .int .i64 item] w (StepR w l er) := by
  unfold stT at hr
  by_cases c : 2 ^ k ≤ came.length
  · rw [if_pos c] at hr
    simp only [Prod.mk.injEq] at hr
    obtain ⟨rfl, rfl⟩ := hr
    exact rstepState_any k u d lo hi v B nb came item w hv hk c
  · rw [if_neg c] at hr
    by_cases c1 : item < 0 ∨ 1048576 < item
    · rw [if_pos c1] at hr
      simp only [Prod.mk.injEq] at hr
      obtain ⟨rfl, rfl⟩ := hr
      exact rstepRange_any k u d lo hi v B nb came item w hv hk c (by omega)
    · rw [if_neg c1] at hr
      simp only [Prod.mk.injEq] at hr
      obtain ⟨rfl, rfl⟩ := hr
      exact rstepGood_any k u d lo hi v B nb came item w hB hv hk c (by omega) (by omega) hc hh
end Go.Proofs.YtjembpcpefgdpaaDoor
