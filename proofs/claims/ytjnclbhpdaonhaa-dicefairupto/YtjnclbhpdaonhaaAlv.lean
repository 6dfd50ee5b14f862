import Derived.Test.YtjnclbhpdaonhaaEvs
import Derived.Test.YtjnclbhpdaonhaaDig
namespace Go.Proofs.Ytjnclbhpdaonhaa
open Go.RowKit Go.Proofs.Ytjnclbhpdaonhaa.Ds

/-- one draw in memory -/
theorem Parts.one {w : World} {v : Value} {ds : List Tr} {x : List Int} {k : Int} (h : Parts w w.heap.size v ds) (hd : rd ds = [(x, k)]) :
    ∃ b o c sa sc, v = .slice (some ⟨b, o, none⟩) 1 c ∧ 1 ≤ c ∧ b < w.heap.size ∧ w.cell? ⟨b, o, none⟩ = some (.slice sa x.length sc) ∧ w.cell? ⟨b, o + 1, none⟩ = some (.int .i64 k) ∧ Ints w w.heap.size w.heap.size (.slice sa x.length sc) x := by
  have hl : ds.length = 1 := by rw [← rd_len, hd]; rfl
  obtain ⟨a, c, rfl, hc, hr⟩ := h
  have hp : Parts w w.heap.size (.slice a ds.length c) ds := ⟨a, c, rfl, hc, hr⟩
  obtain ⟨b, o, sa, sc, xs, k', rfl, hb, hs, c1, c2, hI⟩ := hp.get (Nat.le_refl _) (Below.refl _ _) (i := 0) (by omega)
  have hs' := rd_get hs
  rw [hd] at hs'
  simp at hs'
  obtain ⟨rfl, rfl⟩ := hs'
  exact ⟨b, o, c, sa, sc, by rw [hl], by omega, hb, by simpa using c1, by simpa using c2, hI⟩

theorem one_new2 (w : World) (x : Int) (m : Nat) (t : TypeId) (hm : m ≠ w.heap.size) : Ints (w.alloc (.cells #[.int .i64 x] t)) (w.heap.size + 1) m (.slice (some ⟨w.heap.size, 0, none⟩) 1 1) [x] := by
  refine ⟨_, 1, rfl, by simp, by simp, fun _ => ⟨w.heap.size, 0, rfl, by omega, by omega, fun i z hi => ?_⟩⟩
  match i, hi with
  | 0, hi => simp at hi; subst hi; exact nc _ _ 0 _ rfl rfl

set_option maxHeartbeats 1000000 in
theorem alive_any (w : World) : Calls Try.prog 14 #[] w fun e w' => e = .returned (.bool true) ∧ Below w.heap.size w w' := by
  have kc := evens_any (w.heap.size + 1) (w.heap.size + 1) 2 (.slice (some ⟨w.heap.size, 0, none⟩) 1 1) [1] 1 (w.alloc (.cells #[.int .i64 1] 3)) (by simp) (one_new2 w 1 _ 3 (by omega)) (by decide) (by decide) [([1], 1)] 0 (by decide)
  go_enter Try.func14, Try.ntmps14
  go_wp2_with fail
  refine kc.mono ?_
  rintro e w1 ⟨v1, ds, rfl, k1, k2, k3, _⟩
  have hl : ds.length = 1 := by rw [← rd_len, k1]; rfl
  obtain ⟨a1, c1, rfl, _⟩ := id k2
  have hb : Below w.heap.size w w1 := bt (ba _ _) k3
  rw [hl]
  clear kc k1 k2 k3 hl
  go_wp2
  go_ret
  exact ⟨rfl, hb⟩
end Go.Proofs.Ytjnclbhpdaonhaa
