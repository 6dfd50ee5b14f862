import Derived.Test.YtgmhhfipniiboaaMat
import Derived.Test.YtgmhhfipniiboaaMss
namespace Go.Proofs.Ytgmhhfipniiboaa
open Go.RowKit

/-- are the first k just as seen -/
def sam (m : Int) (l cs : List Int) : Nat → Bool
  | 0 => true
  | k + 1 => sam m l cs k && decide (gx l k = gx cs k % m)
theorem sam_false {m : Int} {l cs : List Int} {k n : Nat} (hk : k < n) (h : ¬ gx l k = gx cs k % m) : sam m l cs n = false := by
  induction n with
  | zero => omega
  | succ n ih =>
    rw [sam]
    by_cases e : k = n
    · subst e; simp [h]
    · rw [ih (by omega)]; rfl
set_option maxRecDepth 100000 in
set_option maxHeartbeats 1000000 in
theorem same_any (m : Int) (hm : 2 ≤ m) (hm2 : m ≤ 1073741824) (B B2 : Nat) (v cv : Value) (l cs : List Int) (W : World) (hB : B ≤ W.heap.size) (hB2 : B2 ≤ W.heap.size) (hl : Num W B v l) (hc : Num W B2 cv cs) (hcl : cs.length = l.length) (r : Bool) (hr : sam m l cs l.length = r) :
    Calls Try.prog 14 #[v, cv, .int .i64 m] W fun e W' => e = .returned (.bool r) ∧ Below W.heap.size W W' := by
  have HN : Hid (Num W B v l) := hl
  have HC : Hid (Num W B2 cv cs) := hc
  have HL : Hid (cs.length = l.length) := hcl
  have HR : Hid (sam m l cs l.length = r) := hr
  obtain ⟨a, c, rfl, hac, hal⟩ := hl.slice
  obtain ⟨a2, c2, rfl, _, _⟩ := hc.slice
  have km := fun x V => mod_any x m hm hm2 _ rfl V
  clear hl hc hcl hr
  go_enter Try.func14, Try.ntmps14
  go_wp2_with fail
  go_loopw [10] (fun iv wr => ∃ (k : Nat), iv = .int .i64 (k : Int) ∧ k ≤ l.length ∧ Hid (sam m l cs k = true) ∧ Below W.heap.size W wr) (fun iv _ => l.length - (intOf iv).toNat)
  case atStart => exact ⟨0, rfl, Nat.zero_le _, rfl, Below.refl _ _⟩
  case round =>
    obtain ⟨k, rfl, hk, HS, hbl⟩ := hrel
    by_cases h1 : k < l.length
    · obtain ⟨b', o, c', x, e1, _, _, hxx, hcx⟩ := (HN.out.at hB hbl).get h1
      simp only [Value.slice.injEq] at e1
      obtain ⟨rfl, -, rfl⟩ := e1
      obtain ⟨b2, o2, c2', y, e1, _, _, hyy, hcy⟩ := (HC.out.at hB2 hbl).get (i := k) (by rw [HL.out]; exact h1)
      simp only [Value.slice.injEq] at e1
      obtain ⟨rfl, -, rfl⟩ := e1
      have z1 : (k : Int) < (l.length : Int) := by omega
      have z2 : (k : Int) < (cs.length : Int) := by rw [HL.out]; exact z1
      have HX : Hid (gx l k = x) := gx_get hxx
      have HY : Hid (gx cs k = y) := gx_get hyy
      clear hxx hyy
      obtain ⟨t, ht⟩ : ∃ t, y % m = t := ⟨_, rfl⟩
      have ky := fun V => mod_any y m hm hm2 t ht V
      by_cases c1 : x = t
      · have HS2 : Hid (sam m l cs (k + 1) = true) := by rw [Hid, sam, HS.out, HX.out, HY.out, ht]; simp [c1]
        have z3 : (x != t) = false := by simp [c1]
        subst c1
        clear ht
        go_wp2_with fail
        go_quiet ((go_at_call 13; refine Calls.quiet_of_same (ky _)))
        go_wp2
        go_roundw
        case rel => exact ⟨k + 1, by go_num, h1, HS2, below_drewN hbl _⟩
        case measure => simp [intOf]; omega
      · have HF : Hid (r = false) := by rw [Hid, ← HR.out]; exact sam_false h1 (by rw [HX.out, HY.out, ht]; exact c1)
        obtain rfl := HF.out
        have z3 : (x != t) = true := by simp [c1]
        clear ht
        go_wp2_with fail
        go_quiet ((go_at_call 13; refine Calls.quiet_of_same (ky _)))
        go_wp2
        go_ret
        exact ⟨rfl, below_drewN hbl _⟩
    · obtain rfl : k = l.length := by omega
      have z1 : ¬ (l.length : Int) < (l.length : Int) := by omega
      obtain rfl : true = r := by rw [← HR.out, HS.out]
      go_wp2
      go_ret
      exact ⟨rfl, hbl⟩
/-- a closed fact -/
theorem alive_any (W : World) : Calls Try.prog 10 #[] W fun e W' => e = .returned (.bool true) ∧ Below W.heap.size W W' := by
  obtain ⟨X, hX⟩ : ∃ X, W.alloc (.cells #[.int .i64 0] 3) = X := ⟨_, rfl⟩
  have bX : Below W.heap.size W X := by rw [← hX]; exact ba _ _
  have hN : Num X X.heap.size (.slice (some ⟨W.heap.size, 0, none⟩) 1 1) [0] := by
    refine ⟨_, 1, rfl, Nat.le_refl _, by simp, fun _ => ⟨W.heap.size, 0, rfl, by rw [← hX]; simp, fun i x hi => ?_⟩⟩
    match i, hi with
    | 0, hi => simp at hi; subst hi; rw [← hX]; exact nc _ _ 0 _ rfl rfl
  have kc := mask_any 7 0 5 _ _ [0] X hN 0 5 (by decide) (by decide)
  clear hN
  go_enter Try.func10, Try.ntmps10
  go_wp2_with fail
  refine kc.mono ?_
  rintro e1 w1 ⟨rfl, hw1⟩
  have hwy := hw1.symm
  subst hwy
  clear kc hw1
  go_wp2
  go_ret
  exact ⟨rfl, bX⟩
end Go.Proofs.Ytgmhhfipniiboaa
