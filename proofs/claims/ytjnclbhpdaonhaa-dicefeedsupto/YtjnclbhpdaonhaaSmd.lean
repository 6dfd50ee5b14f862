import Derived.Test.YtjnclbhpdaonhaaRfs
import Derived.Test.YtjnclbhpdaonhaaDig
namespace Go.Proofs.Ytjnclbhpdaonhaa
open Go.RowKit Go.Proofs.Ytjnclbhpdaonhaa.Ds

set_option maxHeartbeats 1000000 in
theorem sameD_any (B : Nat) (u v : Value) (ts us : List Tr) (w : World) (hB : B ≤ w.heap.size) (hp : Parts w B u ts) (hq : Parts w B v us) (r : Bool) (hr : decide (rd ts = rd us) = r) :
    Calls Try.prog 9 #[u, v] w fun e w' => e = .returned (.bool r) ∧ Below w.heap.size w w' := by
  have HP : Hid (Parts w B u ts) := hp
  have HQ : Hid (Parts w B v us) := hq
  have HR : Hid (decide (rd ts = rd us) = r) := hr
  obtain ⟨a, c, rfl, hc, hl, _⟩ := hp
  obtain ⟨a2, c2, rfl, hc2, hl2, _⟩ := hq
  clear hr
  by_cases hlen : ts.length = us.length
  · have hle : (((ts.length : Int)) == (us.length : Int)) = true := by simp [hlen]
    have hle2 : (((ts.length : Int)) != (us.length : Int)) = false := by simp [hlen]
    have HLN : Hid (ts.length = us.length) := hlen
    clear hlen
    go_enter Try.func9, Try.ntmps9
    go_wp2
    go_loopw [13] (fun s wr => ∃ i : Nat, s = .int .i64 (i : Int) ∧ i ≤ ts.length ∧ (rd ts).take i = (rd us).take i ∧ Below w.heap.size w wr) (fun s _ => ts.length - (intOf s).toNat)
    case atStart => exact ⟨0, rfl, Nat.zero_le _, by simp, Below.refl _ _⟩
    case round =>
      obtain ⟨i, rfl, hit, htk, hbl⟩ := hrel
      have HT : Hid ((rd ts).take i = (rd us).take i) := htk
      clear htk
      by_cases h1 : i < ts.length
      · obtain ⟨b, o, sa, sc, xs, k, rfl, hb, hs, c1, c2', hI⟩ := HP.out.get hB hbl h1
        obtain ⟨b2, o2, sa2, sc2, xs2, k2, rfl, hb2, hs2, d1, d2, hI2⟩ := HQ.out.get hB hbl (i := i) (by have := HLN.out; omega)
        have HS : Hid ((rd ts)[i]? = some (xs, k)) := rd_get hs
        have HS2 : Hid ((rd us)[i]? = some (xs2, k2)) := rd_get hs2
        have HI : Hid (Ints wr B B (.slice sa xs.length sc) xs) := hI
        have HI2 : Hid (Ints wr B B (.slice sa2 xs2.length sc2) xs2) := hI2
        have hs1 := hbl.size
        have z0 : (0 : Int) ≤ (i : Int) := by omega
        have z1 : (i : Int) < (us.length : Int) := by have := HLN.out; omega
        have z2 : (i : Int) < (ts.length : Int) := by omega
        obtain ⟨r1, HC⟩ : ∃ r1, Hid (cmpT xs xs2 = r1) := ⟨_, rfl⟩
        clear hs hs2 hI hI2
        by_cases hk : k = k2
        · subst hk
          have hkk : (k != k) = false := by simp
          have hdd : decide (k = k) = true := decide_eq_true rfl
          by_cases he : r1 = 0
          · have hx : Hid (xs2 = xs) := ((cmpT_zero _ _).1 (HC.out.trans he)).symm
            subst he
            go_wp2_with fail
            go_quiet ((go_at_call 16; refine Calls.quiet_of (refCompare_any B B B _ _ xs xs2 _ ?_ ?_ 0 HC.out); exact HI.out.keep (below_drewN (Below.refl _ _) _); exact HI2.out.keep (below_drewN (Below.refl _ _) _)))
            go_wp2
            go_roundw
            case rel => exact ⟨i + 1, by go_num, h1, take_next HT.out HS.out (by rw [HS2.out, hx.out]), below_drewN hbl _⟩
            case measure => simp [intOf]; omega
          · have he' : (r1 != 0) = true := by simpa using he
            have hr1 : r = false := by
              rw [← HR.out]
              refine decide_eq_false fun h => he ?_
              have h2 := HS.out
              rw [h, HS2.out] at h2
              simp only [Option.some.injEq, Prod.mk.injEq] at h2
              rw [← HC.out, h2.1]; exact cmpT_self _
            subst hr1
            go_wp2_with fail
            go_quiet ((go_at_call 16; refine Calls.quiet_of (refCompare_any B B B _ _ xs xs2 _ ?_ ?_ r1 HC.out); exact HI.out.keep (below_drewN (Below.refl _ _) _); exact HI2.out.keep (below_drewN (Below.refl _ _) _)))
            go_wp2
            go_ret
            exact ⟨rfl, below_drewN hbl _⟩
        · have hkk : (k != k2) = true := by simpa using hk
          have hdd : decide (k = k2) = false := decide_eq_false hk
          have hr1 : r = false := by
            rw [← HR.out]
            refine decide_eq_false fun h => hk ?_
            have h2 := HS.out
            rw [h, HS2.out] at h2
            simp only [Option.some.injEq, Prod.mk.injEq] at h2
            exact h2.2.symm
          subst hr1
          go_wp2_with fail
          go_quiet (fail)
          go_wp2
          go_ret
          exact ⟨rfl, below_drewN hbl _⟩
      · have hr1 : r = true := by
          rw [← HR.out]
          refine decide_eq_true ?_
          have := HT.out
          rwa [rd_take_all (by omega), rd_take_all (by have := HLN.out; omega)] at this
        subst hr1
        go_wp2
        go_ret
        exact ⟨rfl, hbl⟩
  · have hle : (((ts.length : Int)) == (us.length : Int)) = false := by simp; omega
    have hle2 : (((ts.length : Int)) != (us.length : Int)) = true := by simp; omega
    have hr1 : r = false := by
      rw [← HR.out]
      refine decide_eq_false fun h => hlen ?_
      rw [← rd_len, h, rd_len]
    subst hr1
    go_enter Try.func9, Try.ntmps9
    go_wp2
    go_ret
    exact ⟨rfl, Below.refl _ _⟩

set_option maxHeartbeats 1000000 in
theorem digits2_any (j L : Nat) (w : World) (hL : L ≤ 9) (hj : j ≤ 4611686018427387904) :
    Calls Try.prog 15 #[.int .i64 (j : Int), .int .i64 (L : Int)] w fun e w' => e = .returned (.slice (some ⟨w.heap.size, 0, none⟩) L L) ∧ (∀ m, m < w.heap.size → Ints w' w'.heap.size m (.slice (some ⟨w.heap.size, 0, none⟩) L L) (dg j L)) ∧ Below w.heap.size w w' := by
  have hmk := make_ints L (by omega)
  go_enter Try.func15, Try.ntmps15
  go_wp2
  go_loopw [0, 6] (fun nv iv wr => ∃ (n k : Nat) (xs : List Int), nv = .int .i64 (n : Int) ∧ iv = .int .i64 ((k : Int) - 1) ∧ n ≤ 4611686018427387904 ∧ k ≤ L ∧ Hid (Digd j L n k xs) ∧ Hid (RowI wr w.heap.size xs) ∧ Below w.heap.size w wr) (fun _ iv _ => (intOf iv + 1).toNat)
  case atStart => exact ⟨j, L, List.replicate L 0, rfl, by go_num, hj, Nat.le_refl _, Digd.start j L, RowI.made _ _, ba _ _⟩
  case round =>
    obtain ⟨n, k, xs, rfl, rfl, hn, hk, HD, HR, hbl⟩ := hrel
    have hxl : Hid (xs.length = L) := HD.out.1
    cases k with
    | zero =>
      have HX : Hid (xs = dg j L) := by have := HD.out.2.2; simpa [dg, Hid] using this.symm
      go_wp2
      go_ret
      obtain rfl : xs = dg j L := HX.out
      have := HR.out.ints (by have := hxl.out; omega)
      rw [hxl.out] at this
      exact ⟨rfl, this, hbl⟩
    | succ k =>
      obtain ⟨x, hx⟩ := get_lt (l := xs) (i := k) (by have := hxl.out; omega)
      have c1 := HR.out.cells k x hx
      have c2 := HR.out.thaw k (by have := hxl.out; omega)
      have HD2 : Hid (Digd j L (n / 2) k (xs.set k ((n % 2 : Nat) : Int))) := HD.out.step
      have y1 : (k : Int) < (L : Int) := by omega
      clear hx
      go_wp2
      go_roundw
      case rel => exact ⟨n / 2, k, xs.set k ((n % 2 : Nat) : Int), by go_num, by go_num, by omega, by omega, HD2, HR.out.set k ((n % 2 : Nat) : Int), bs hbl (p := ⟨w.heap.size, k, none⟩) (Nat.le_refl _) _⟩
      case measure => simp [intOf]

theorem Ints.take {w : World} {B nb : Nat} {a : Option Addr} {n c : Nat} {xs : List Int} (h : Ints w B nb (.slice a n c) xs) (u : Nat) (hu : u ≤ xs.length) : Ints w B nb (.slice a u c) (xs.take u) := by
  obtain ⟨a', c', hv, hc, hl, hx⟩ := h
  simp only [Value.slice.injEq] at hv
  obtain ⟨rfl, rfl, rfl⟩ := hv
  have e : (xs.take u).length = u := by rw [List.length_take]; omega
  refine ⟨a, c, by rw [e], by rw [e]; omega, by rw [e]; omega, fun hne => ?_⟩
  obtain ⟨b, o, ha, hb, hn, hcell⟩ := hx (by rintro rfl; simp at hne)
  refine ⟨b, o, ha, hb, hn, fun i x hi => hcell i x ?_⟩
  rw [List.getElem?_take] at hi
  split at hi
  · exact hi
  · cases hi
end Go.Proofs.Ytjnclbhpdaonhaa
