import Derived.Test.YtgmhhfipniiboaaMsk
import Derived.Test.YtgmhhfipniiboaaMsu
import Derived.Test.YtgmhhfipniiboaaRsu
namespace Go.Proofs.Ytgmhhfipniiboaa
open Go.RowKit

set_option maxRecDepth 100000 in
set_option maxHeartbeats 1000000 in
theorem maskSays_walk (B : Nat) (m me x : Int) (v mv tv sv : Value) (hs xs : List Int) (ts : List Bool) (rs : List Rw) (W : World) (hB : B ≤ W.heap.size) (hh : Num W B v hs) (hx : Num W B mv xs) (ht : Bls W B tv ts) (hr : Rws W B sv rs) :
    Calls Try.prog 3 #[.int .i64 m, .int .i64 me, .int .i64 x, v, mv, tv, sv] W fun e W' => e = .returned (.bool true) ∧ Below W.heap.size W W' := by
  obtain ⟨er, he⟩ : ∃ er, mkE m me x hs = er := ⟨_, rfl⟩
  obtain ⟨r, hr1⟩ : ∃ r, mkN m me x hs = r := ⟨_, rfl⟩
  obtain ⟨er2, he2⟩ : ∃ er, smE m xs ts (rr rs) = er := ⟨_, rfl⟩
  obtain ⟨r2, hr2⟩ : ∃ r, smN m xs ts (rr rs) = r := ⟨_, rfl⟩
  have k1 := mask_any m me x B v hs W hh er r he hr1
  have k2 := rmask_any m me x B v hs W hh er r he hr1
  have k3 := sum_any m B mv tv sv xs ts rs W hB hx ht hr er2 r2 he2 hr2
  have K4 : Hid (∀ V, Below W.heap.size W V → Calls Try.prog 9 #[.int .i64 m, mv, tv, sv] V fun e W' => e = .returned (.tuple #[.int .i64 r2, .int .i64 er2]) ∧ W' = V) := fun V hV => rsum_any m B mv tv sv xs ts rs V (hx.at hB hV) (ht.at hB hV) (hr.at hB hV) er2 r2 he2 hr2
  obtain ⟨a, c, rfl, _⟩ := hh.slice
  obtain ⟨a2, c2, rfl, _⟩ := hx.slice
  obtain ⟨a3, c3, rfl, _⟩ := ht.slice
  obtain ⟨a4, c4, rfl, _⟩ := hr.slice
  clear he hr1 he2 hr2 hh hx ht hr
  go_enter Try.func3, Try.ntmps3
  go_wp2_with fail
  refine k1.mono ?_
  rintro e1 w1 ⟨rfl, hw1⟩
  have hwy := hw1.symm
  subst hwy
  clear k1 hw1
  go_wp2_with fail
  refine k2.mono ?_
  rintro e1 w1 ⟨rfl, hw1⟩
  have hwy := hw1.symm
  subst hwy
  clear k2 hw1
  go_wp2_with fail
  refine k3.mono ?_
  rintro e1 w1 ⟨rfl, hb1⟩
  have k4 := K4.out w1 hb1
  clear k3 K4
  go_wp2_with fail
  refine k4.mono ?_
  rintro e1 w2 ⟨rfl, hw1⟩
  have hwy := hw1.symm
  subst hwy
  clear k4 hw1
  go_wp2
  go_ret
  exact ⟨rfl, hb1⟩
end Go.Proofs.Ytgmhhfipniiboaa
