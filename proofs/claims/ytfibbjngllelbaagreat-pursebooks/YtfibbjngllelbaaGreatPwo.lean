import Derived.Test.YtfibbjngllelbaaGreatPoq
import Derived.Deep.RegionWith
namespace Go.Proofs.YtfibbjngllelbaaGreat
open Go.RowKit Go.Proofs.YtfibbjngllelbaaGreat.Ds

theorem one_is (w : World) : Calls Tryz.prog 42 #[] w fun e w' => e = .returned (rv 1 1) ∧ w' = w.alloc (.cells #[.int .i64 1, .int .i64 1] 35) := by
  go_enter Tryz.func42, Tryz.ntmps42
  go_wp2
  exact bodyPost_ret (v := rv 1 1) (by simp [results, Tryz.results42, go_sem]) rfl ⟨rfl, rfl⟩

theorem Pts.new' (w : World) (f : Int → Rq) (N : Nat) (hN : N = w.heap.size) : Pts (w.alloc (.map #[] 0)) N 0 (.map []) (fun _ => False) f := by subst hN; exact Pts.new w f
set_option maxHeartbeats 1000000 in
set_option maxRecDepth 100000 in
theorem opened_any (bud : Rq) (f : Int → Rq) (w : World) : Calls Tryz.prog 37 #[rvq bud] w fun x w' => ∃ b, x = .returned (pv bud oneQ b) ∧ Below w.heap.size w w' ∧ w.heap.size ≤ b ∧ Pts w' b 0 (.map []) (fun _ => False) f := by
  have hmm := @run_makeMap Tryz.prog
  go_enter Tryz.func37, Tryz.ntmps37
  go_wp2_with fail
  go_region_with (go_at_call 42; refine (one_is _).mono ?_; rintro e w' ⟨rfl, rfl⟩)
  all_goals go_wp2_with fail
  all_goals first
    | exact bodyPost_ret (v := pv bud oneQ (w.heap.size + 1 + 1 + 1)) (by simp [results, Tryz.results37, go_sem, oneQ]) rfl ⟨_, rfl, Below.drew (bal (bal (bal (ba _ _) _) _) _), by omega, (Pts.new' _ f (w.heap.size + 1 + 1 + 1) (by simp)).gb (gb_drew (gb_refl _ none)) (by simp)⟩
    | exact bodyPost_ret (v := pv bud oneQ (w.heap.size + 1 + 1)) (by simp [results, Tryz.results37, go_sem, oneQ]) rfl ⟨_, rfl, Below.drew (bal (bal (bal (ba _ _) _) _) _), by omega, ((Pts.new' _ f (w.heap.size + 1 + 1) (by simp)).keep (ba _ _)).gb (gb_drew (gb_refl _ none)) (by simp)⟩
end Go.Proofs.YtfibbjngllelbaaGreat
