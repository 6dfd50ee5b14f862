import Derived.Test.YtihgoaceinpkpaaPow
namespace Go.Proofs.Ytihgoaceinpkpaa
open Go.RowKit

/-- What is known of memory between two calls: nothing old has turned; the variables x, y (blocks w.heap.size and the next), a (block A), b (block B) hold these. -/
structure Held (w w' : World) (A B : Nat) (x0 x1 y0 y1 a0 a1 b0 b1 : Int) : Prop where
  bel : Below w.heap.size w w'
  z0 : w.heap.size + 1 < A
  z1 : A < B
  z2 : B < w'.heap.size
  cx0 : w'.cell? ⟨w.heap.size, 0, none⟩ = some (.int .i64 x0)
  cx1 : w'.cell? ⟨w.heap.size, 1, none⟩ = some (.int .i64 x1)
  cy0 : w'.cell? ⟨w.heap.size + 1, 0, none⟩ = some (.int .i64 y0)
  cy1 : w'.cell? ⟨w.heap.size + 1, 1, none⟩ = some (.int .i64 y1)
  ca0 : w'.cell? ⟨A, 0, none⟩ = some (.int .i64 a0)
  ca1 : w'.cell? ⟨A, 1, none⟩ = some (.int .i64 a1)
  cb0 : w'.cell? ⟨B, 0, none⟩ = some (.int .i64 b0)
  cb1 : w'.cell? ⟨B, 1, none⟩ = some (.int .i64 b1)
  fa0 : w'.frozen? ⟨A, 0, none⟩ = false
  fa1 : w'.frozen? ⟨A, 1, none⟩ = false
  fb0 : w'.frozen? ⟨B, 0, none⟩ = false
  fb1 : w'.frozen? ⟨B, 1, none⟩ = false

theorem held_call {w w' w'' : World} {A B : Nat} {x0 x1 y0 y1 a0 a1 b0 b1 : Int} (h : Held w w' A B x0 x1 y0 y1 a0 a1 b0 b1) (k : Below w'.heap.size w' w'') : Held w w'' A B x0 x1 y0 y1 a0 a1 b0 b1 := by
  have l0 := h.z0
  have l1 := h.z1
  have l2 := h.z2
  have hc : ∀ b o, b < w'.heap.size → w''.cell? ⟨b, o, none⟩ = w'.cell? ⟨b, o, none⟩ := (bcell k).1
  have hf : ∀ b o, b < w'.heap.size → w''.frozen? ⟨b, o, none⟩ = w'.frozen? ⟨b, o, none⟩ := (bcell k).2
  have hs := k.size
  refine ⟨bt h.bel k, l0, l1, by omega, ?_, ?_, ?_, ?_, ?_, ?_, ?_, ?_, ?_, ?_, ?_, ?_⟩
  · rw [hc _ _ (by omega)]; exact h.cx0
  · rw [hc _ _ (by omega)]; exact h.cx1
  · rw [hc _ _ (by omega)]; exact h.cy0
  · rw [hc _ _ (by omega)]; exact h.cy1
  · rw [hc _ _ (by omega)]; exact h.ca0
  · rw [hc _ _ (by omega)]; exact h.ca1
  · rw [hc _ _ (by omega)]; exact h.cb0
  · rw [hc _ _ (by omega)]; exact h.cb1
  · rw [hf _ _ (by omega)]; exact h.fa0
  · rw [hf _ _ (by omega)]; exact h.fa1
  · rw [hf _ _ (by omega)]; exact h.fb0
  · rw [hf _ _ (by omega)]; exact h.fb1

theorem held_a {w w' : World} {A B : Nat} {x0 x1 y0 y1 a0 a1 b0 b1 : Int} (h : Held w w' A B x0 x1 y0 y1 a0 a1 b0 b1) (n m : Int) :
    Held w ((w'.setCell ⟨A, 0, none⟩ (.int .i64 n)).setCell ⟨A, 1, none⟩ (.int .i64 m)) A B x0 x1 y0 y1 n m b0 b1 := by
  obtain ⟨bel, l0, l1, l2, cx0, cx1, cy0, cy1, ca0, ca1, cb0, cb1, fa0, fa1, fb0, fb1⟩ := h
  have n1 : ¬ w.heap.size = A := by omega
  have n2 : ¬ w.heap.size + 1 = A := by omega
  have n3 : ¬ B = A := by omega
  refine ⟨bs (bs bel (by simp; omega) _) (by simp; omega) _, l0, l1, by simp; omega, ?_, ?_, ?_, ?_, ?_, ?_, ?_, ?_, ?_, ?_, ?_, ?_⟩ <;> simp [go_sem, *]

theorem held_b {w w' : World} {A B : Nat} {x0 x1 y0 y1 a0 a1 b0 b1 : Int} (h : Held w w' A B x0 x1 y0 y1 a0 a1 b0 b1) (n m : Int) :
    Held w ((w'.setCell ⟨B, 0, none⟩ (.int .i64 n)).setCell ⟨B, 1, none⟩ (.int .i64 m)) A B x0 x1 y0 y1 a0 a1 n m := by
  obtain ⟨bel, l0, l1, l2, cx0, cx1, cy0, cy1, ca0, ca1, cb0, cb1, fa0, fa1, fb0, fb1⟩ := h
  have n1 : ¬ w.heap.size = B := by omega
  have n2 : ¬ w.heap.size + 1 = B := by omega
  have n3 : ¬ A = B := by omega
  refine ⟨bs (bs bel (by simp; omega) _) (by simp; omega) _, l0, l1, by simp; omega, ?_, ?_, ?_, ?_, ?_, ?_, ?_, ?_, ?_, ?_, ?_, ?_⟩ <;> simp [go_sem, *]

set_option maxHeartbeats 1000000 in
theorem reckons_walk (a b c d : Int) (w : World) :
    Calls Try.prog 4 #[rv a b, rv c d] w fun x w' => x = .returned (.bool true) ∧ Below w.heap.size w w' := by
  obtain ⟨n1, m1, e1, h1⟩ : ∃ n m e, Rt.timesT a b c d = (n, m, e) := ⟨_, _, _, rfl⟩
  obtain ⟨n2, m2, e2, h2⟩ : ∃ n m e, Rt.overT a b c d = (n, m, e) := ⟨_, _, _, rfl⟩
  obtain ⟨n3, m3, e3, h3⟩ : ∃ n m e, Rt.plusT a b c d = (n, m, e) := ⟨_, _, _, rfl⟩
  obtain ⟨n4, m4, e4, h4⟩ : ∃ n m e, Rt.minusT a b c d = (n, m, e) := ⟨_, _, _, rfl⟩
  obtain ⟨n5, e5, h5⟩ : ∃ n e, Rt.orderT a b c d = (n, e) := ⟨_, _, rfl⟩
  have H1 : Hid (Rt.timesT a b c d = (n1, m1, e1)) := h1
  have H2 : Hid (Rt.overT a b c d = (n2, m2, e2)) := h2
  have H3 : Hid (Rt.plusT a b c d = (n3, m3, e3)) := h3
  have H4 : Hid (Rt.minusT a b c d = (n4, m4, e4)) := h4
  have H5 : Hid (Rt.orderT a b c d = (n5, e5)) := h5
  clear h1 h2 h3 h4 h5
  go_enter Try.func4, Try.ntmps4
  go_wp2_with fail
  refine (times_any a b c d n1 m1 e1 H1.out _).mono ?_
  rintro x1 w1 ⟨rfl, hb1⟩
  have G1 := bt (bal (ba _ _) _) hb1
  obtain ⟨hc1, hf1⟩ := bcell hb1
  have hz1 : w.heap.size < w1.heap.size := by have := hb1.size; simp at this; omega
  have hz1' : w.heap.size + 1 < w1.heap.size := by have := hb1.size; simp at this; omega
  go_wp2_with fail
  refine (refTimes_any a b c d n1 m1 e1 H1.out _).mono ?_
  rintro x2 w2 ⟨rfl, hb2⟩
  obtain ⟨hc2, hf2⟩ := bcell hb2
  have hz2 : w1.heap.size < w2.heap.size := by have := hb2.size; simp at this; omega
  have hz2' : w.heap.size < w2.heap.size := by omega
  have hz2'' : w.heap.size + 1 < w2.heap.size := by omega
  have K2 : Held w (w2.alloc (.cells #[.int .i64 n1, .int .i64 m1] 23)) w1.heap.size w2.heap.size a b c d n1 m1 n1 m1 := by
    refine ⟨bal (bt (bal G1 _) hb2) _, hz1', hz2, by simp, ?_, ?_, ?_, ?_, ?_, ?_, ?_, ?_, ?_, ?_, ?_, ?_⟩
    · simp [go_sem, hz2']; rw [hc2 _ _ (by simp; omega)]; simp [go_sem, hz1, hc1]
    · simp [go_sem, hz2']; rw [hc2 _ _ (by simp; omega)]; simp [go_sem, hz1, hc1]
    · simp [go_sem, hz2'']; rw [hc2 _ _ (by simp; omega)]; simp [go_sem, hz1', hc1]
    · simp [go_sem, hz2'']; rw [hc2 _ _ (by simp; omega)]; simp [go_sem, hz1', hc1]
    · simp [go_sem, hz2]; rw [hc2 _ _ (by simp)]; simp [go_sem]
    · simp [go_sem, hz2]; rw [hc2 _ _ (by simp)]; simp [go_sem]
    · simp [go_sem]
    · simp [go_sem]
    · simp [go_sem, hz2]; rw [hf2 _ _ (by simp)]; simp [go_sem]
    · simp [go_sem, hz2]; rw [hf2 _ _ (by simp)]; simp [go_sem]
    · simp [go_sem]
    · simp [go_sem]
  have S2 := K2
  obtain ⟨bel, l0, l1, l2, cx0, cx1, cy0, cy1, ca0, ca1, cb0, cb1, fa0, fa1, fb0, fb1⟩ := S2
  clear hc1 hf1 hc2 hf2 hb1 hb2 G1 bel
  have ne1 : ¬ w1.heap.size = w2.heap.size := by omega
  have ne2 : ¬ w2.heap.size = w1.heap.size := by omega
  have ne3 : ¬ w.heap.size = w1.heap.size := by omega
  have ne4 : ¬ w.heap.size + 1 = w1.heap.size := by omega
  have ne5 : ¬ w.heap.size = w2.heap.size := by omega
  have ne6 : ¬ w.heap.size + 1 = w2.heap.size := by omega
  go_wp2_with fail
  clear l2 cx0 cx1 cy0 cy1 ca0 ca1 cb0 cb1 fa0 fa1 fb0 fb1
  refine (over_any a b c d n2 m2 e2 H2.out _).mono ?_
  rintro x3 w3 ⟨rfl, hb3⟩
  have K3 := held_call K2 hb3
  have S3 := K3
  obtain ⟨bel, l0, l1, l2, cx0, cx1, cy0, cy1, ca0, ca1, cb0, cb1, fa0, fa1, fb0, fb1⟩ := S3
  clear bel hb3 K2
  go_wp2_with fail
  clear l2 cx0 cx1 cy0 cy1 ca0 ca1 cb0 cb1 fa0 fa1 fb0 fb1
  refine (refOver_any a b c d n2 m2 e2 H2.out _).mono ?_
  rintro x4 w4 ⟨rfl, hb4⟩
  have K4 := held_call (held_a K3 n2 m2) hb4
  have S4 := K4
  obtain ⟨bel, l0, l1, l2, cx0, cx1, cy0, cy1, ca0, ca1, cb0, cb1, fa0, fa1, fb0, fb1⟩ := S4
  clear bel hb4 K3
  go_wp2_with fail
  have L4 := held_b K4 n2 m2
  clear K4
  clear l2 cx0 cx1 cy0 cy1 ca0 ca1 cb0 cb1 fa0 fa1 fb0 fb1
  refine (plus_any a b c d n3 m3 e3 H3.out _).mono ?_
  rintro x5 w5 ⟨rfl, hb5⟩
  have K5 := held_call L4 hb5
  have S5 := K5
  obtain ⟨bel, l0, l1, l2, cx0, cx1, cy0, cy1, ca0, ca1, cb0, cb1, fa0, fa1, fb0, fb1⟩ := S5
  clear bel hb5 L4
  go_wp2_with fail
  clear l2 cx0 cx1 cy0 cy1 ca0 ca1 cb0 cb1 fa0 fa1 fb0 fb1
  refine (refPlus_any a b c d n3 m3 e3 H3.out _).mono ?_
  rintro x6 w6 ⟨rfl, hb6⟩
  have K6 := held_call (held_a K5 n3 m3) hb6
  have S6 := K6
  obtain ⟨bel, l0, l1, l2, cx0, cx1, cy0, cy1, ca0, ca1, cb0, cb1, fa0, fa1, fb0, fb1⟩ := S6
  clear bel hb6 K5
  go_wp2_with fail
  have L6 := held_b K6 n3 m3
  clear K6
  clear l2 cx0 cx1 cy0 cy1 ca0 ca1 cb0 cb1 fa0 fa1 fb0 fb1
  refine (minus_any a b c d n4 m4 e4 H4.out _).mono ?_
  rintro x7 w7 ⟨rfl, hb7⟩
  have K7 := held_call L6 hb7
  have S7 := K7
  obtain ⟨bel, l0, l1, l2, cx0, cx1, cy0, cy1, ca0, ca1, cb0, cb1, fa0, fa1, fb0, fb1⟩ := S7
  clear bel hb7 L6
  go_wp2_with fail
  clear l2 cx0 cx1 cy0 cy1 ca0 ca1 cb0 cb1 fa0 fa1 fb0 fb1
  refine (refMinus_any a b c d n4 m4 e4 H4.out _).mono ?_
  rintro x8 w8 ⟨rfl, hb8⟩
  have K8 := held_call (held_a K7 n4 m4) hb8
  have S8 := K8
  obtain ⟨bel, l0, l1, l2, cx0, cx1, cy0, cy1, ca0, ca1, cb0, cb1, fa0, fa1, fb0, fb1⟩ := S8
  clear bel hb8 K7
  go_wp2_with fail
  have L8 := held_b K8 n4 m4
  clear K8
  refine (order_any a b c d n5 e5 H5.out _).mono ?_
  rintro x9 w9 ⟨rfl, hb9⟩
  have K9 := held_call L8 hb9
  clear l2 cx0 cx1 cy0 cy1 ca0 ca1 cb0 cb1 fa0 fa1 fb0 fb1 L8
  have S9 := K9
  obtain ⟨bel, l0, l1, l2, cx0, cx1, cy0, cy1, ca0, ca1, cb0, cb1, fa0, fa1, fb0, fb1⟩ := S9
  go_wp2_with fail
  refine (refOrder_any a b c d n5 e5 H5.out _).mono ?_
  rintro x10 w10 ⟨rfl, hb10⟩
  go_wp2_with fail
  go_ret
  exact ⟨by simp, bt K9.bel hb10⟩
end Go.Proofs.Ytihgoaceinpkpaa
