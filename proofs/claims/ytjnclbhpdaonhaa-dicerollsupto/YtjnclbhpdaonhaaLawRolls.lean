import Derived.Test.YtjnclbhpdaonhaaRfv
import Derived.Test.YtjnclbhpdaonhaaSmd
namespace Go.Proofs.Ytjnclbhpdaonhaa
open Go.RowKit Go.Proofs.Ytjnclbhpdaonhaa.Ds

set_option maxHeartbeats 2000000 in
set_option maxRecDepth 100000 in
theorem law_rolls (B nb : Nat) (v u : Value) (ts : List Tr) (bits : List Int) (n times : Int) (w : World) (hB : B ≤ w.heap.size) (hp : Parts w B v ts) (hu : Ints w B nb u bits) (hn : -9223372036854775808 ≤ n ∧ n ≤ 9223372036854775807) (ht : -9223372036854775808 ≤ times ∧ times ≤ 9223372036854775807) :
    Calls Try.prog 3 #[v, .int .i64 n, u, .int .i64 times] w fun e w' => e = .returned (.bool true) ∧ Below w.heap.size w w' := by
  obtain ⟨⟨l, er⟩, hr⟩ : ∃ x, rollsT (rd ts) bits times = x := ⟨_, rfl⟩
  obtain ⟨⟨l2, er2⟩, hr2⟩ : ∃ x, evensT n bits times = x := ⟨_, rfl⟩
  have kc := rolls_any B nb v u ts bits times w hB hp hu ht l er hr
  have HP : Hid (Parts w B v ts) := hp
  have HU : Hid (Ints w B nb u bits) := hu
  have HR : Hid (rollsT (rd ts) bits times = (l, er)) := hr
  have HR2 : Hid (evensT n bits times = (l2, er2)) := hr2
  obtain ⟨a, c, rfl, hc, hl, _⟩ := hp
  obtain ⟨ua, uc, rfl, huc, _⟩ := hu
  clear hr hr2
  have hee : (er != er) = false := by simp
  have hee2 : (er2 == er2) = true := by simp
  have hee3 : (er == er) = true := by simp
  go_enter Try.func3, Try.ntmps3
  go_wp2_with fail
  refine kc.mono ?_
  rintro e w1 ⟨v1, ds1, rfl, k1, k2, hb1, _⟩
  have hs1 := hb1.size
  have kr := rollsR_any B nb _ _ ts bits times w1 (by omega) (HP.out.at hB hb1) (HU.out.at hB hb1) ht l er HR.out
  have HD1 : Hid (rd ds1 = l ∧ Parts w1 w1.heap.size v1 ds1) := ⟨k1, k2⟩
  obtain ⟨a1, c1, rfl, _⟩ := id k2
  clear kc k1 k2
  go_wp2_with fail
  refine kr.mono ?_
  rintro e w2 ⟨v2, ds2, rfl, k1, k2, hb2⟩
  have hs2 := hb2.size
  have ks := sameD_any w2.heap.size _ v2 ds1 ds2 w2 (Nat.le_refl _) ((HD1.out.2.keep hb2).mono hs2) k2 true (decide_eq_true (by rw [HD1.out.1, k1]))
  obtain ⟨a2, c2, rfl, _⟩ := id k2
  clear kr k1 k2
  go_wp2_with fail
  refine ks.mono ?_
  rintro e w3 ⟨rfl, hb3⟩
  have hs3 := hb3.size
  have hbw : Below w.heap.size w w3 := bt (bt hb1 hb2) hb3
  have ke := evens_any B nb n _ bits times w3 (by omega) (HU.out.at hB hbw) hn ht l2 er2 HR2.out
  clear ks
  go_wp2_with fail
  refine ke.mono ?_
  rintro e w4 ⟨v4, ds4, rfl, k1, k2, hb4, _⟩
  have hs4 := hb4.size
  have hbw4 : Below w.heap.size w w4 := bt hbw hb4
  have kf := evensR_any B nb n _ bits times w4 (by omega) (HU.out.at hB hbw4) l2 er2 HR2.out
  have HD4 : Hid (rd ds4 = l2 ∧ Parts w4 w4.heap.size v4 ds4) := ⟨k1, k2⟩
  obtain ⟨a4, c4, rfl, _⟩ := id k2
  clear ke k1 k2
  go_wp2_with fail
  refine kf.mono ?_
  rintro e w5 ⟨v5, ds5, rfl, k1, k2, hb5⟩
  have hs5 := hb5.size
  have kg := sameD_any w5.heap.size _ v5 ds4 ds5 w5 (Nat.le_refl _) ((HD4.out.2.keep hb5).mono hs5) k2 true (decide_eq_true (by rw [HD4.out.1, k1]))
  obtain ⟨a5, c5, rfl, _⟩ := id k2
  have hbw5 : Below w.heap.size w w5 := bt hbw4 hb5
  clear kf k1 k2
  go_wp2_with fail
  refine kg.mono ?_
  rintro e w6 ⟨rfl, hb6⟩
  have hbw6 : Below w.heap.size w w6 := bt hbw5 hb6
  clear kg
  go_wp2
  go_ret
  exact ⟨by simp, hbw6⟩
end Go.Proofs.Ytjnclbhpdaonhaa
