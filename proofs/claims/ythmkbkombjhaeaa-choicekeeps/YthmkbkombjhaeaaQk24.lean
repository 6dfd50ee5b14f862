import Derived.Test.YthmkbkombjhaeaaQk23
namespace Go.Proofs.Ythmkbkombjhaeaa
open Go.RowKit Go.Proofs.Ythmkbkombjhaeaa.Ds

theorem refMost_any (a b c d : Int) (ha0 : 0 ≤ a) (ha : a ≤ 1073741824) (hb0 : 0 ≤ b) (hb : b ≤ 1073741824) (hc0 : 0 ≤ c) (hc : c ≤ 1073741824) (hd0 : 0 ≤ d) (hd : d ≤ 1073741824) (hle : a * d ≤ c * b) (w : World) :
    Calls Try.prog 42 #[rv a b, rv c d] w fun e w' => e = .returned (.bool true) ∧ Below w.heap.size w w' := by
  have b1 := Rt.mul_bd ha0 ha hd0 hd
  have b2 := Rt.mul_bd hc0 hc hb0 hb
  obtain ⟨P, hP⟩ : ∃ P, a * d = P := ⟨_, rfl⟩
  obtain ⟨Q, hQ⟩ : ∃ Q, c * b = Q := ⟨_, rfl⟩
  rw [hP] at b1 hle
  rw [hQ] at b2 hle
  have hh : decide (P ≤ Q) = true := decide_eq_true hle
  go_enter Try.func42, Try.ntmps42
  go_wp2
  go_ret
  exact ⟨rfl, bal (ba _ _) _⟩
/-- what is answered of how far they are -/
def Wth (x y e p q er : Int) : Prop := e = 4 ∨ (e = 0 ∧ 0 ≤ x ∧ x ≤ 1073741824 ∧ 0 ≤ y ∧ y ≤ 1073741824 ∧ (er = 0 → 0 ≤ p ∧ p ≤ 1073741824 ∧ 0 ≤ q ∧ q ≤ 1073741824 ∧ x * q ≤ p * y))
theorem within_any (B : Nat) (u v : Value) (ts us : List Tr) (w : World) (hB : B ≤ w.heap.size) (hp : Parts w B u ts) (hq : Parts w B v us) (x y e p q er : Int) (hf : farT (rd ts) (rd us) = (x, y, e)) (hw : Wth x y e p q er) :
    Calls Try.prog 19 #[u, v, rv p q, .int .i64 er] w fun z w' => z = .returned (.bool true) ∧ Below w.heap.size w w' := by
  have kf := fun W (h1 : Parts W B u ts) (h2 : Parts W B v us) (h3 : B ≤ W.heap.size) => far_any B u v ts us W h3 h1 h2 x y e hf
  have HP : Hid (Parts w B u ts) := hp
  have HQ : Hid (Parts w B v us) := hq
  obtain ⟨a1, c1, rfl, _⟩ := hp
  obtain ⟨a2, c2, rfl, _⟩ := hq
  clear hf
  rcases hw with rfl | ⟨rfl, x0, x1, y0, y1, hm⟩
  · go_enter Try.func19, Try.ntmps19
    go_wp2_with fail
    refine (kf _ (HP.out.at hB (ba _ _)) (HQ.out.at hB (ba _ _)) (by simp; omega)).mono ?_
    rintro z w1 ⟨rfl, hb1⟩
    clear kf
    have G1 := bt (ba _ _) hb1
    go_wp2
    go_ret
    exact ⟨rfl, bal G1 _⟩
  · by_cases c0 : er = 0
    · subst c0
      obtain ⟨p0, p1, q0, q1, hle⟩ := hm rfl
      have km := refMost_any x y p q x0 x1 y0 y1 p0 p1 q0 q1 hle
      clear hle hm
      go_enter Try.func19, Try.ntmps19
      go_wp2_with fail
      refine (kf _ (HP.out.at hB (ba _ _)) (HQ.out.at hB (ba _ _)) (by simp; omega)).mono ?_
      rintro z w1 ⟨rfl, hb1⟩
      clear kf
      have G1 := bt (ba _ _) hb1
      obtain ⟨hc1, hf1⟩ := bcell hb1
      have k0 : w1.cell? ⟨w.heap.size, 0, none⟩ = some (.int .i64 p) := by rw [hc1 _ _ (by simp)]; simp [go_sem]
      have k1 : w1.cell? ⟨w.heap.size, 1, none⟩ = some (.int .i64 q) := by rw [hc1 _ _ (by simp)]; simp [go_sem]
      have k2 : w.heap.size < w1.heap.size := by have := hb1.size; simp at this; omega
      clear hc1 hf1 hb1
      go_wp2_with fail
      refine (km _).mono ?_
      rintro z w2 ⟨rfl, hb2⟩
      clear km
      have G2 := bt (bal G1 _) hb2
      go_wp2
      go_ret
      exact ⟨rfl, G2⟩
    · have c1 : (er == 0) = false := by simpa using c0
      have c2 : (er != 0) = true := by simpa using c0
      go_enter Try.func19, Try.ntmps19
      go_wp2_with fail
      refine (kf _ (HP.out.at hB (ba _ _)) (HQ.out.at hB (ba _ _)) (by simp; omega)).mono ?_
      rintro z w1 ⟨rfl, hb1⟩
      clear kf
      have G1 := bt (ba _ _) hb1
      go_wp2
      go_ret
      exact ⟨rfl, bal G1 _⟩
end Go.Proofs.Ythmkbkombjhaeaa
