import Derived.Test.YthmkbkombjhaeaaWgh
namespace Go.Proofs.Ythmkbkombjhaeaa
open Go.RowKit Go.Proofs.Ythmkbkombjhaeaa.Ds

theorem weigh_alive : weighT 2 1 [1, 0] = ([([0], 2), ([1], 1)], 0) := by decide
theorem alive_any (w : World) : Calls Try.prog 17 #[] w fun x w' => x = .returned (.bool true) ∧ Below w.heap.size w w' := by
  have kw := weigh_any (w.heap.size + 1) 2 1 _ [1, 0] _ (num_two w 1 0) (by simp) _ 0 weigh_alive
  go_enter Try.func17, Try.ntmps17
  go_wp2_with fail
  refine kw.mono ?_
  rintro e w1 ⟨v1, us, rfl, h1, h2, h3, _⟩
  have hul : us.length = 2 := by
    have := congrArg List.length h1
    simpa [rd] using this
  obtain ⟨a1, c1, rfl⟩ := h2.slice
  rw [hul]
  have G1 := bt (ba _ _) h3
  clear kw h1 h2 hul
  go_wp2
  go_ret
  exact ⟨rfl, G1⟩
end Go.Proofs.Ythmkbkombjhaeaa
