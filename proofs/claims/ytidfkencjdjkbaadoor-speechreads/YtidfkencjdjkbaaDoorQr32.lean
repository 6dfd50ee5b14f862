import Derived.Test.YtidfkencjdjkbaaDoorQr31
/-
  The document's own answer, chapter 15: number, signed, span.
-/
namespace Go.Proofs.YtidfkencjdjkbaaDoor
open Go.RowKit Sp

theorem valN_app (a b : By) : valN (a ++ b) = b.foldl (fun n c => n * 10 + (c.toNat - 48)) (valN a) := by simp [valN]
theorem foldl_ge (b : By) (n : Nat) : n ≤ b.foldl (fun n c => n * 10 + (c.toNat - 48)) n := by
  induction b generalizing n with
  | nil => simp
  | cons c r ih =>
    simp only [List.foldl_cons]
    exact Nat.le_trans (by omega) (ih _)
theorem valN_take_le (x : By) (k : Nat) : valN (x.take k) ≤ valN x := by
  have h := valN_app (x.take k) (x.drop k)
  rw [List.take_append_drop] at h
  rw [h]
  exact foldl_ge _ _
theorem valN_snoc {x : By} {k : Nat} {c : UInt8} (h : x[k]? = some c) : valN (x.take (k + 1)) = valN (x.take k) * 10 + (c.toNat - 48) := by
  have e : x.take (k + 1) = x.take k ++ [c] := by rw [List.take_add_one, h]; rfl
  rw [e, valN_app]
  rfl
theorem numP_ok {ps : List Pc} (h1 : fstD (hd ps) = true) (h2 : zeroA (hd ps) = false) (h3 : valN (hd ps) ≤ 1048576) : numP ps = .ok ((valN (hd ps) : Int), ps.tail) := by rw [numP, if_pos ⟨h1, h2⟩, if_pos h3]
theorem numP_no2 {ps : List Pc} (h : ¬ (fstD (hd ps) = true ∧ zeroA (hd ps) = false)) : numP ps = .error (2, hat ps) := by rw [numP, if_neg h]
theorem numP_no3 {ps : List Pc} (h1 : fstD (hd ps) = true) (h2 : zeroA (hd ps) = false) (h3 : ¬ valN (hd ps) ≤ 1048576) : numP ps = .error (3, hat ps) := by rw [numP, if_pos ⟨h1, h2⟩, if_neg h3]
theorem str_at {x : By} {k : Nat} {c : UInt8} (hc : x[k]? = some c) : ∀ h, (tx x)[k]'h = c := fun h => by
  have hk : k < x.length := (List.getElem?_eq_some_iff.1 hc).1
  have h3 : (tx x)[k]'h = x[k]'hk := rfl
  rw [h3]
  exact Option.some.inj ((List.getElem?_eq_getElem _).symm.trans hc)
theorem dig_bd {c : UInt8} (h : digB c = true) : 48 ≤ c.toNat ∧ c.toNat ≤ 57 := by simpa [digB] using h
set_option maxHeartbeats 4000000 in
set_option maxRecDepth 100000 in
theorem rnum50 {w : World} {R P0 : Nat} {st : St} (h : SS w R P0 st) (r : PR Int) (hr : onS numP st = r) : Calls Tryd.prog 50 #[ptR R] w (SP w R P0 VI GI r) := by
  have HS : Hid (SS w R P0 st) := h
  cases st with
  | error x =>
    obtain rfl : .error x = r := hr
    obtain ⟨q2, hx⟩ := h.dead
    obtain ⟨k, x⟩ := x
    simp only at q2 hx
    have d : (k == 0) = false := by simpa using hx
    have d2 : (k != 0) = true := by simpa using hx
    clear h hx
    go_enter Tryd.func50, Tryd.ntmps50
    go_wp2
    go_ret
    exact ⟨_, rfl, ⟨0, rfl⟩, HS.out, gb_below (Below.refl _ _)⟩
  | ok ps =>
    obtain ⟨cc, i, n, q0, q1, q2, q3, hin, hnc, hn6, p0, p1, hPR, hPl, hRl, hpk, hfz⟩ := h.alive
    have hini : (i : Int) < (n : Int) := by omega
    have z1w : w.frozen? ⟨R, 1, none⟩ = false := (hfz 1).resolve_right (by omega)
    have HR : Hid (numP ps = r) := hr
    obtain ⟨x, hx⟩ : ∃ x, hd ps = x := ⟨_, rfl⟩
    have HX : Hid (hd ps = x) := hx
    have HD : Hid (fstD x = true → x.all digB = true) := by rw [Hid, ← hx]; exact pok_dig hpk
    have hxl : x.length ≤ 65536 := by rw [← hx]; exact pok_len hpk
    rw [hx] at p0
    clear h hr hx hfz hpk
    go_enter Tryd.func50, Tryd.ntmps50
    go_wp2_with fail
    go_quiet (fail)
    have HB1 : Hid (Below w.heap.size w (w.drewN nq)) := below_drewN (Below.refl _ _) _
    have HS1 : Hid (SS (w.drewN nq) R P0 (.ok ps)) := HS.out.at HB1.out
    have kb := bad_any HS1.out 2 (by decide)
    have kb3 := bad_any HS1.out 3 (by decide)
    have hsz : (tx x).size = x.length := by show x.toArray.size = _; simp
    have q1' : (w.drewN nq).cell? ⟨R, 1, none⟩ = some (.int .i64 (i : Int)) := q1
    have z1 : (w.drewN nq).frozen? ⟨R, 1, none⟩ = false := z1w
    obtain ⟨w1, hw1⟩ : ∃ w1, w.drewN nq = w1 := ⟨_, rfl⟩
    rw [hw1] at HB1 HS1 kb kb3 q1' z1 ⊢
    clear hw1 q0 q1 q2 q3 p0 p1 z1w
    by_cases hok : fstD x = true ∧ zeroA x = false
    · obtain ⟨hf, hz⟩ := hok
      have hall := HD.out hf
      obtain ⟨c, t, rfl⟩ : ∃ c t, x = c :: t := by
        cases x with
        | nil => simp [fstD] at hf
        | cons c t => exact ⟨c, t, rfl⟩
      obtain ⟨x, hx2⟩ : ∃ x, x = c :: t := ⟨_, rfl⟩
      have HXc : Hid (x = c :: t) := hx2
      have e0 := str_at (x := c :: t) (k := 0) (c := c) rfl
      have kd := rdig_any c.toNat w1 true hf
      have qe := eqs (c :: t) [] false (by simp)
      have qe2 : ((c :: t) == ([] : By)) = false := rfl
      have HAL : Hid (∀ y ∈ c :: t, digB y = true) := fun y hy => List.all_eq_true.1 hall y hy
      have HFS : Hid (fstD (c :: t) = true ∧ zeroA (c :: t) = false) := ⟨hf, hz⟩
      have hlen1 : 0 < (tx (c :: t)).size := by rw [hsz]; simp
      obtain ⟨m, hm⟩ : ∃ m, (c :: t).length = m := ⟨_, rfl⟩
      have HM : Hid ((c :: t).length = m) := hm
      rw [hm] at hsz hxl
      have hm1 : 1 ≤ m := by rw [← hm]; simp
      have HLP : Hid (∀ k, k < m → ∃ y, (c :: t)[k]? = some y ∧ digB y = true) := fun k hk => by
        obtain ⟨y, hy⟩ : ∃ y, (c :: t)[k]? = some y := ⟨_, List.getElem?_eq_getElem (by rw [HM.out]; exact hk)⟩
        exact ⟨y, hy, HAL.out y (List.mem_of_getElem? hy)⟩
      have HNO : Hid (∀ k, k ≤ m → 1048576 < valN ((c :: t).take k) → .error (3, hat ps) = r) := fun k _ hk => by
        rw [← HR.out, numP_no3 (by rw [HX.out]; exact HFS.out.1) (by rw [HX.out]; exact HFS.out.2) (by rw [HX.out]; have := valN_take_le (c :: t) k; omega)]
      have HYS : Hid (valN ((c :: t).take m) ≤ 1048576 → .ok ((valN ((c :: t).take m) : Int), ps.tail) = r) := fun hk => by
        have e : (c :: t).take m = c :: t := List.take_of_length_le (by rw [HM.out]; exact Nat.le_refl _)
        rw [e] at hk ⊢
        rw [← HR.out, numP_ok (by rw [HX.out]; exact HFS.out.1) (by rw [HX.out]; exact HFS.out.2) (by rw [HX.out]; exact hk), HX.out]
      have hne : Hid (hd ps ≠ []) := by rw [Hid, HX.out]; simp
      have hw : IntKind.i64.wrap ((i : Int) + 1) = (i : Int) + 1 := by rw [IntKind.wrap_i64]; omega
      obtain ⟨W2, hW2⟩ : ∃ W2, w1.setCell ⟨R, 1, none⟩ (.int .i64 ((i : Int) + 1)) = W2 := ⟨_, rfl⟩
      have HF : Hid (SS W2 R P0 (.ok ps.tail)) := hW2 ▸ (show SS (w1.setCell ⟨R, 1, none⟩ (.int .i64 ((i : Int) + 1))) R P0 (.ok ps.tail) from HS1.out.step q1' hne.out)
      have HG2 : Hid (w.grownBy W2 (some R)) := hW2 ▸ gb_set (gb_below HB1.out) 1 _
      have HW2 : Hid (w1.setCell ⟨R, 1, none⟩ (.int .i64 ((i : Int) + 1)) = W2) := hW2
      have HC48 : Hid (1 < m → ¬ c.toNat = 48) := fun h1 e => by
        cases t with
        | nil => simp at hm; omega
        | cons d t' =>
          have : c = 48 := UInt8.toNat_inj.1 e
          rw [this] at hz
          simp [zeroA] at hz
      generalize (c :: t) = X at *
      clear hW2 hm hx2 hall hf hz HR HX HD HAL HFS HXc
      by_cases hm2 : m = 1
      · have h2m : ¬ (1 : Int) < (m : Int) := by omega
        have h2n : ¬ 1 < m := by omega
        have h2d : decide ((1 : Int) < (m : Int)) = false := by simpa using h2m
        have h2e : decide (1 < m) = false := by simpa using h2n
        clear hm2
        have e00 : ∀ h, (tx X)[0]'h = c := e0
        go_wp2_with fail
        refine kd.mono ?_
        rintro e w1 ⟨rfl, rfl⟩
        clear kd
        go_wp2
        go_loopw [4, 5] (fun nv kv wr => ∃ N k : Nat, nv = .int .i64 (N : Int) ∧ kv = .int .i64 (k : Int) ∧ k ≤ m ∧ N ≤ 1048576 ∧ Hid (valN (X.take k) = N) ∧ wr = w1) (fun _ kv _ => m - (intOf kv).toNat)
        case atStart => exact ⟨0, 0, rfl, rfl, Nat.zero_le _, by omega, by simp [Hid, valN], rfl⟩
        case round =>
          obtain ⟨N, k, rfl, rfl, hkm, hN, HV, rfl⟩ := hrel
          by_cases ck : k < m
          · obtain ⟨y, hy, hdy⟩ := HLP.out k ck
            obtain ⟨y1, y2⟩ := dig_bd hdy
            have e1 := str_at hy
            have hki : (k : Int) < (m : Int) := by omega
            have hks : k < (tx X).size := by omega
            obtain ⟨Y, hY⟩ : ∃ Y, y.toNat = Y := ⟨_, rfl⟩
            have HV1 : Hid (valN (X.take (k + 1)) = N * 10 + (Y - 48)) := by rw [Hid, valN_snoc hy, HV.out, hY]
            have b1 : IntKind.u8.wrap ((y.toNat : Int) - 48) = ((Y - 48 : Nat) : Int) := by rw [IntKind.wrap_u8, hY]; omega
            have b2 : IntKind.i64.wrap (10 * (N : Int)) = 10 * (N : Int) := by rw [IntKind.wrap_i64]; omega
            have b3 : IntKind.i64.wrap ((Y - 48 : Nat) : Int) = ((Y - 48 : Nat) : Int) := by rw [IntKind.wrap_i64]; omega
            have b4 : IntKind.i64.wrap (10 * (N : Int) + ((Y - 48 : Nat) : Int)) = ((N * 10 + (Y - 48) : Nat) : Int) := by rw [IntKind.wrap_i64]; omega
            obtain ⟨M, hM⟩ : ∃ M, N * 10 + (Y - 48) = M := ⟨_, rfl⟩
            rw [hM] at b4 HV1
            by_cases cM : M ≤ 1048576
            · have cm1 : ¬ (1048576 : Int) < (M : Int) := by omega
              have cm2 : decide ((1048576 : Int) < (M : Int)) = false := by simpa using cm1
              have cm3 : ¬ 1048576 < M := by omega
              have hwk : IntKind.i64.wrap ((k : Int) + 1) = (k : Int) + 1 := by rw [IntKind.wrap_i64]; omega
              clear hM hY hy hdy y1 y2
              go_wp2
              go_roundw
              case rel => exact ⟨M, k + 1, rfl, by go_num, by omega, cM, HV1, by first | rfl | trivial⟩
              case measure => simp [intOf]; omega
            · obtain rfl : .error (3, hat ps) = r := HNO.out (k + 1) (by omega) (by rw [HV1.out]; omega)
              have cm1 : (1048576 : Int) < (M : Int) := by omega
              have cm3 : 1048576 < M := by omega
              clear hM hY hy hdy y1 y2
              go_wp2_with fail
              refine kb3.mono ?_
              rintro e w5 ⟨rfl, hs5, hg5⟩
              go_wp2
              go_ret
              exact ⟨_, rfl, ⟨0, rfl⟩, hs5, gb_trans (gb_below HB1.out) hg5⟩
          · obtain rfl : k = m := by omega
            obtain rfl : .ok ((N : Int), ps.tail) = r := by have := HYS.out; rw [HV.out] at this; exact this hN
            have hW2 := HW2.out
            go_wp2
            go_ret
            exact ⟨_, rfl, rfl, HF.out, HG2.out⟩
      · have h2m : (1 : Int) < (m : Int) := by omega
        have h2n : 1 < m := by omega
        have hc48 : ((c.toNat : Int) == 48) = false := by have := HC48.out (by omega); simp; omega
        have hc49 : ¬ (c.toNat : Int) = 48 := by have := HC48.out (by omega); omega
        have e00 : ∀ h, (tx X)[0]'h = c := e0
        go_wp2_with fail
        refine kd.mono ?_
        rintro e w1 ⟨rfl, rfl⟩
        clear kd
        go_wp2
        go_loopw [4, 5] (fun nv kv wr => ∃ N k : Nat, nv = .int .i64 (N : Int) ∧ kv = .int .i64 (k : Int) ∧ k ≤ m ∧ N ≤ 1048576 ∧ Hid (valN (X.take k) = N) ∧ wr = w1) (fun _ kv _ => m - (intOf kv).toNat)
        case atStart => exact ⟨0, 0, rfl, rfl, Nat.zero_le _, by omega, by simp [Hid, valN], rfl⟩
        case round =>
          obtain ⟨N, k, rfl, rfl, hkm, hN, HV, rfl⟩ := hrel
          by_cases ck : k < m
          · obtain ⟨y, hy, hdy⟩ := HLP.out k ck
            obtain ⟨y1, y2⟩ := dig_bd hdy
            have e1 := str_at hy
            have hki : (k : Int) < (m : Int) := by omega
            have hks : k < (tx X).size := by omega
            obtain ⟨Y, hY⟩ : ∃ Y, y.toNat = Y := ⟨_, rfl⟩
            have HV1 : Hid (valN (X.take (k + 1)) = N * 10 + (Y - 48)) := by rw [Hid, valN_snoc hy, HV.out, hY]
            have b1 : IntKind.u8.wrap ((y.toNat : Int) - 48) = ((Y - 48 : Nat) : Int) := by rw [IntKind.wrap_u8, hY]; omega
            have b2 : IntKind.i64.wrap (10 * (N : Int)) = 10 * (N : Int) := by rw [IntKind.wrap_i64]; omega
            have b3 : IntKind.i64.wrap ((Y - 48 : Nat) : Int) = ((Y - 48 : Nat) : Int) := by rw [IntKind.wrap_i64]; omega
            have b4 : IntKind.i64.wrap (10 * (N : Int) + ((Y - 48 : Nat) : Int)) = ((N * 10 + (Y - 48) : Nat) : Int) := by rw [IntKind.wrap_i64]; omega
            obtain ⟨M, hM⟩ : ∃ M, N * 10 + (Y - 48) = M := ⟨_, rfl⟩
            rw [hM] at b4 HV1
            by_cases cM : M ≤ 1048576
            · have cm1 : ¬ (1048576 : Int) < (M : Int) := by omega
              have cm2 : decide ((1048576 : Int) < (M : Int)) = false := by simpa using cm1
              have cm3 : ¬ 1048576 < M := by omega
              have hwk : IntKind.i64.wrap ((k : Int) + 1) = (k : Int) + 1 := by rw [IntKind.wrap_i64]; omega
              clear hM hY hy hdy y1 y2
              go_wp2
              go_roundw
              case rel => exact ⟨M, k + 1, rfl, by go_num, by omega, cM, HV1, by first | rfl | trivial⟩
              case measure => simp [intOf]; omega
            · obtain rfl : .error (3, hat ps) = r := HNO.out (k + 1) (by omega) (by rw [HV1.out]; omega)
              have cm1 : (1048576 : Int) < (M : Int) := by omega
              have cm3 : 1048576 < M := by omega
              clear hM hY hy hdy y1 y2
              go_wp2_with fail
              refine kb3.mono ?_
              rintro e w5 ⟨rfl, hs5, hg5⟩
              go_wp2
              go_ret
              exact ⟨_, rfl, ⟨0, rfl⟩, hs5, gb_trans (gb_below HB1.out) hg5⟩
          · obtain rfl : k = m := by omega
            obtain rfl : .ok ((N : Int), ps.tail) = r := by have := HYS.out; rw [HV.out] at this; exact this hN
            have hW2 := HW2.out
            go_wp2
            go_ret
            exact ⟨_, rfl, rfl, HF.out, HG2.out⟩
    · obtain rfl : .error (2, hat ps) = r := by rw [← HR.out, numP_no2 (by rw [HX.out]; exact hok)]
      cases x with
      | nil =>
        have qe := eqs [] [] true (by simp)
        have qe2 : (([] : By) == ([] : By)) = true := rfl
        go_wp2_with fail
        refine kb.mono ?_
        rintro e w5 ⟨rfl, hs5, hg5⟩
        go_wp2
        go_ret
        exact ⟨_, rfl, ⟨0, rfl⟩, hs5, gb_trans (gb_below HB1.out) hg5⟩
      | cons c t =>
        have e0 := str_at (x := c :: t) (k := 0) (c := c) rfl
        have qe := eqs (c :: t) [] false (by simp)
        have qe2 : ((c :: t) == ([] : By)) = false := rfl
        have hlen1 : 0 < (tx (c :: t)).size := by rw [hsz]; simp
        cases hdc : digB c with
        | false =>
          have kd := rdig_any c.toNat w1 false hdc
          clear hok HR HX HD
          generalize (c :: t) = X at *
          go_wp2_with fail
          refine kd.mono ?_
          rintro e w1 ⟨rfl, rfl⟩
          clear kd
          go_wp2_with fail
          refine kb.mono ?_
          rintro e w5 ⟨rfl, hs5, hg5⟩
          go_wp2
          go_ret
          exact ⟨_, rfl, ⟨0, rfl⟩, hs5, gb_trans (gb_below HB1.out) hg5⟩
        | true =>
          have kd := rdig_any c.toNat w1 true hdc
          obtain ⟨d, t', rfl⟩ : ∃ d t', t = d :: t' := by
            cases t with
            | nil => exact absurd ⟨hdc, rfl⟩ hok
            | cons d t' => exact ⟨d, t', rfl⟩
          have hc8 : c = 48 := by
            by_cases h8 : c = 48
            · exact h8
            · refine absurd ⟨hdc, ?_⟩ hok
              simpa [zeroA] using h8
          subst hc8
          have h2m : (1 : Int) < ((48 :: d :: t' : By).length : Int) := by simp; omega
          obtain ⟨m, hm⟩ : ∃ m, (48 :: d :: t' : By).length = m := ⟨_, rfl⟩
          rw [hm] at h2m hsz
          have h2n : 1 < m := by omega
          clear hok HR HX HD hm hdc
          generalize (48 :: d :: t' : By) = X at *
          go_wp2_with fail
          refine kd.mono ?_
          rintro e w1 ⟨rfl, rfl⟩
          clear kd
          go_wp2_with fail
          refine kb.mono ?_
          rintro e w5 ⟨rfl, hs5, hg5⟩
          go_wp2
          go_ret
          exact ⟨_, rfl, ⟨0, rfl⟩, hs5, gb_trans (gb_below HB1.out) hg5⟩
end Go.Proofs.YtidfkencjdjkbaaDoor
