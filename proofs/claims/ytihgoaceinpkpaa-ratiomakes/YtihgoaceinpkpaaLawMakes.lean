import Derived.Test.YtihgoaceinpkpaaPow
import Derived.Deep.RegionHeld3
namespace Go.Proofs.Ytihgoaceinpkpaa
open Go.RowKit

set_option maxHeartbeats 1000000 in
theorem makes_walk (u d a b n : Int) (hu : u ≤ 9223372036854775807) (hd : d ≤ 9223372036854775807) (w : World) :
    Calls Try.prog 3 #[.int .i64 u, .int .i64 d, rv a b, .int .i64 n] w fun x w' => x = .returned (.bool true) ∧ Below w.heap.size w w' := by
  obtain ⟨n1, m1, e1, h1⟩ : ∃ n m e, Rt.mkT u d = (n, m, e) := ⟨_, _, _, rfl⟩
  obtain ⟨n2, m2, e2, h2⟩ : ∃ p q e, Rt.powT a b n = (p, q, e) := ⟨_, _, _, rfl⟩
  obtain ⟨r, hr⟩ : ∃ r, Rt.rightB a b = r := ⟨_, rfl⟩
  have H1 : Hid (Rt.mkT u d = (n1, m1, e1)) := h1
  have H2 : Hid (Rt.powT a b n = (n2, m2, e2)) := h2
  have HR : Hid (Rt.rightB a b = r) := hr
  clear h1 h2 hr
  go_enter Try.func3, Try.ntmps3
  go_wp2_with fail
  refine (make_any u d n1 m1 e1 hu hd H1.out _).mono ?_
  rintro x1 w1 ⟨rfl, hb1⟩
  have G1 := bt (ba _ _) hb1
  obtain ⟨hc1, hf1⟩ := bcell hb1
  have hz1 : w.heap.size < w1.heap.size := by have := hb1.size; simp at this; omega
  go_wp2_with fail
  refine (refMake_any u d n1 m1 e1 hu hd H1.out _).mono ?_
  rintro x2 w2 ⟨rfl, hb2⟩
  have hz2 : w1.heap.size < w2.heap.size := by have := hb2.size; simp at this; omega
  have hz2' : w.heap.size < w2.heap.size := by omega
  have F2 := bt (ba _ _) hb2
  have G2 := bt G1 F2
  obtain ⟨hc2, hf2⟩ := bcell hb2
  have k0 : w2.cell? ⟨w.heap.size, 0, none⟩ = some (.int .i64 a) := by rw [hc2 _ _ (by simp; omega)]; simp [go_sem, hz1, hc1]
  have k1 : w2.cell? ⟨w.heap.size, 1, none⟩ = some (.int .i64 b) := by rw [hc2 _ _ (by simp; omega)]; simp [go_sem, hz1, hc1]
  have k2 : w2.cell? ⟨w1.heap.size, 0, none⟩ = some (.int .i64 n1) := by rw [hc2 _ _ (by simp)]; simp [go_sem]
  have k3 : w2.cell? ⟨w1.heap.size, 1, none⟩ = some (.int .i64 m1) := by rw [hc2 _ _ (by simp)]; simp [go_sem]
  have k4 : w2.frozen? ⟨w1.heap.size, 0, none⟩ = false := by rw [hf2 _ _ (by simp)]; simp [go_sem]
  have k5 : w2.frozen? ⟨w1.heap.size, 1, none⟩ = false := by rw [hf2 _ _ (by simp)]; simp [go_sem]
  clear hc1 hf1 hb1 hb2 hc2 hf2
  go_wp2_with fail
  have G3 := bal G2 (.cells #[.int .i64 n1, .int .i64 m1] 23)
  go_region_held3 (fun w' => Below w.heap.size w w' ∧ w.heap.size < w'.heap.size ∧ w1.heap.size < w'.heap.size ∧ w2.heap.size < w'.heap.size ∧ w'.cell? ⟨w.heap.size, 0, none⟩ = some (.int .i64 a) ∧ w'.cell? ⟨w.heap.size, 1, none⟩ = some (.int .i64 b) ∧ w'.cell? ⟨w1.heap.size, 0, none⟩ = some (.int .i64 n1) ∧ w'.cell? ⟨w1.heap.size, 1, none⟩ = some (.int .i64 m1) ∧ w'.cell? ⟨w2.heap.size, 0, none⟩ = some (.int .i64 n1) ∧ w'.cell? ⟨w2.heap.size, 1, none⟩ = some (.int .i64 m1)
      ∧ w'.frozen? ⟨w1.heap.size, 0, none⟩ = false ∧ w'.frozen? ⟨w1.heap.size, 1, none⟩ = false ∧ w'.frozen? ⟨w2.heap.size, 0, none⟩ = false ∧ w'.frozen? ⟨w2.heap.size, 1, none⟩ = false)
    ((go_split_ands; refine ⟨?_, ?_, ?_, ?_, ?_, ?_, ?_, ?_, ?_, ?_, ?_, ?_, ?_, ?_⟩ <;> first | (simp [go_sem, *]; done) | omega | (exact bt (by assumption) hb4) | (exact bt (by assumption) hb3) | (exact G3) | (exact G3.drew) | (simp; omega)))
    (first
      | (go_at_call 9; refine (right_any a b r HR.out _).mono ?_; rintro x3 w3 ⟨rfl, hb3⟩; obtain ⟨hc3, hf3⟩ := bcell hb3; have hs3 := hb3.size)
      | (go_at_call 10; refine (refRight_any a b r HR.out _).mono ?_; rintro x4 w4 ⟨rfl, hb4⟩; obtain ⟨hc4, hf4⟩ := bcell hb4; have hs4 := hb4.size))
  rename_i hHeld
  obtain ⟨g0, g1, g2, g3, g4, g5, g6, g7, g8, g9, g10, g11, g12, g13⟩ := hHeld
  clear hc3 hf3 hs3 hb3 hc4 hf4 hs4 hb4 G3 k0 k1 k2 k3 k4 k5
  go_wp2_with fail
  have ne1 : ¬ w1.heap.size = w2.heap.size := by omega
  have ne2 : ¬ w2.heap.size = w1.heap.size := by omega
  have ne3 : ¬ w.heap.size = w1.heap.size := by omega
  have ne4 : ¬ w1.heap.size = w.heap.size := by omega
  have ne5 : ¬ w.heap.size = w2.heap.size := by omega
  refine (power_any a b n n2 m2 e2 H2.out _).mono ?_
  rintro x5 w5 ⟨rfl, hb5⟩
  obtain ⟨hc5, hf5⟩ := bcell hb5
  have hs5 := hb5.size
  have g0' := bt g0 hb5
  have j1 : w.heap.size < w5.heap.size := by omega
  have j2 : w1.heap.size < w5.heap.size := by omega
  have j3 : w2.heap.size < w5.heap.size := by omega
  go_wp2_with fail
  refine (refPower_any a b n n2 m2 e2 H2.out _).mono ?_
  rintro x6 w6 ⟨rfl, hb6⟩
  obtain ⟨hc6, hf6⟩ := bcell hb6
  have g1' := bt (bs (bs g0' (p := ⟨w1.heap.size, 0, none⟩) (by simp; omega) (.int .i64 n2)) (p := ⟨w1.heap.size, 1, none⟩) (by simp; omega) (.int .i64 m2)) hb6
  go_wp2_with fail
  go_ret
  refine ⟨by simp, ?_⟩
  exact bs (bs g1' (by simp; omega) _) (by simp; omega) _
end Go.Proofs.Ytihgoaceinpkpaa
