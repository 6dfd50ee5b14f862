import Derived.Test.YtdcdjjemndadaaaMeu
namespace Go.Proofs.Ytdcdjjemndadaaa
open Go.RowKit Go.Proofs.Ytdcdjjemndadaaa.Ds

theorem refMost_any (a b c d : Int) (ha0 : 0 ≤ a) (ha : a ≤ 1073741824) (hb0 : 0 ≤ b) (hb : b ≤ 1073741824) (hc0 : 0 ≤ c) (hc : c ≤ 1073741824) (hd0 : 0 ≤ d) (hd : d ≤ 1073741824) (r : Bool) (hr : decide (a * d ≤ c * b) = r) (w : World) :
    Calls Try.prog 36 #[rv a b, rv c d] w fun e w' => e = .returned (.bool r) ∧ Below w.heap.size w w' := by
  have b1 := Rt.mul_bd ha0 ha hd0 hd
  have b2 := Rt.mul_bd hc0 hc hb0 hb
  obtain ⟨P, hP⟩ : ∃ P, a * d = P := ⟨_, rfl⟩
  obtain ⟨Q, hQ⟩ : ∃ Q, c * b = Q := ⟨_, rfl⟩
  rw [hP] at b1
  rw [hQ] at b2
  rw [hP, hQ] at hr
  by_cases h : P ≤ Q
  · have hh : decide (P ≤ Q) = true := decide_eq_true h
    obtain rfl : true = r := by rw [← hr, hh]
    clear hr
    go_enter Try.func36, Try.ntmps36
    go_wp2
    go_ret
    exact ⟨rfl, bal (ba _ _) _⟩
  · have hh : decide (P ≤ Q) = false := decide_eq_false h
    obtain rfl : false = r := by rw [← hr, hh]
    clear hr
    go_enter Try.func36, Try.ntmps36
    go_wp2
    go_ret
    exact ⟨rfl, bal (ba _ _) _⟩

/-- small enough to be reckoned with -/
def Sml (n d : Int) : Prop := 0 ≤ n ∧ n ≤ 1073741824 ∧ 0 ≤ d ∧ d ≤ 1073741824

theorem most_any (n d e n' d' e' : Int) (h : Sml n d) (h' : Sml n' d') (hr : e ≠ 0 ∨ e' ≠ 0 ∨ n * d' ≤ n' * d) (w : World) :
    Calls Try.prog 34 #[rv n d, .int .i64 e, rv n' d', .int .i64 e'] w fun x w' => x = .returned (.bool true) ∧ Below w.heap.size w w' := by
  obtain ⟨a1, a2, a3, a4⟩ := h
  obtain ⟨b1, b2, b3, b4⟩ := h'
  by_cases z1 : e = 0
  · subst z1
    by_cases z2 : e' = 0
    · subst z2
      have hle : n * d' ≤ n' * d := by rcases hr with h | h | h <;> first | exact absurd rfl h | exact h
      have kc := fun W => refMost_any n d n' d' a1 a2 a3 a4 b1 b2 b3 b4 true (decide_eq_true hle) W
      clear hr hle
      go_enter Try.func34, Try.ntmps34
      go_wp2_with fail
      refine (kc _).mono ?_
      rintro x w1 ⟨rfl, hb⟩
      go_wp2
      go_ret
      exact ⟨rfl, bt (bal (ba _ _) _) hb⟩
    · have z2' : (e' == 0) = false := by simpa using z2
      have z2'' : (e' != 0) = true := by simpa using z2
      clear hr
      go_enter Try.func34, Try.ntmps34
      go_wp2
      go_ret
      exact ⟨rfl, bal (ba _ _) _⟩
  · have z1' : (e == 0) = false := by simpa using z1
    have z1'' : (e != 0) = true := by simpa using z1
    clear hr
    go_enter Try.func34, Try.ntmps34
    go_wp2
    go_ret
    exact ⟨rfl, bal (ba _ _) _⟩

theorem ints_made (w : World) (n : Int) : Ints (w.alloc (.cells #[.int .i64 n] 3)) (w.heap.size + 1) (w.heap.size + 1) (.slice (some ⟨w.heap.size, 0, none⟩) 1 1) [n] := by
  refine ⟨_, 1, rfl, by simp, by simp, fun _ => ⟨w.heap.size, 0, rfl, by omega, by omega, fun i x hi => ?_⟩⟩
  match i, hi with
  | 0, hi => simp at hi; subst hi; simp [go_sem]
  | (i + 1), hi => simp at hi

theorem make_three : makeT [([3], 1)] = ([([3], 1)], 0) := by decide

theorem alive_any (w : World) : Calls Try.prog 31 #[] w fun x w' => x = .returned (.bool true) ∧ Below w.heap.size w w' := by
  have kc := sure_any (w.heap.size + 1) (w.heap.size + 1) _ [3] _ (by simp) (ints_made w 3) _ 0 make_three
  go_enter Try.func31, Try.ntmps31
  go_wp2_with fail
  refine kc.mono ?_
  rintro x w1 ⟨v, us, rfl, hr, ho, hb⟩
  clear kc
  obtain ⟨a, c, rfl⟩ := ho.slice
  have hp := ho.parts
  obtain ⟨⟨s, xs, k⟩, rfl⟩ : ∃ t, us = [t] := by
    match us, hr with
    | [t], _ => exact ⟨t, rfl⟩
    | [], h => simp [rd] at h
    | _ :: _ :: _, h => simp [rd] at h
  obtain ⟨_, rfl⟩ : xs = [3] ∧ k = 1 := by simpa [rd] using hr
  obtain ⟨b, o, sa, sc, xs', k', rfl, hb', hs, d1, d2, hI⟩ := hp.get (Nat.le_refl _) (Below.refl _ _) (i := 0) (by simp)
  simp only [List.getElem?_cons_zero, Option.some.injEq, Prod.mk.injEq] at hs
  obtain ⟨rfl, rfl, rfl⟩ := hs
  have hbw : Below w.heap.size w w1 := bt (ba _ _) hb
  clear hr ho hp hI hb
  simp only [Nat.zero_mul, Nat.add_zero] at d1 d2
  go_wp2
  go_ret
  exact ⟨rfl, hbw⟩
end Go.Proofs.Ytdcdjjemndadaaa
