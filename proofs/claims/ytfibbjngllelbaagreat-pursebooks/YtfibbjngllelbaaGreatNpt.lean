import Derived.Test.YtfibbjngllelbaaGreatRefs
import Derived.Test.YtfibbjngllelbaaGreatLst
namespace Go.Proofs.YtfibbjngllelbaaGreat
open Go.RowKit Go.Proofs.YtfibbjngllelbaaGreat.Ds

/-! ### what the law reckons with -/
theorem refMost_any (a b c d : Int) (ha0 : 0 ≤ a) (ha : a ≤ 1073741824) (hb0 : 0 ≤ b) (hb : b ≤ 1073741824) (hc0 : 0 ≤ c) (hc : c ≤ 1073741824) (hd0 : 0 ≤ d) (hd : d ≤ 1073741824) (r : Bool) (hr : decide (a * d ≤ c * b) = r) (w : World) :
    Calls Tryz.prog 20 #[rv a b, rv c d] w fun e w' => e = .returned (.bool r) ∧ Below w.heap.size w w' := by
  have b1 := Rt.mul_bd ha0 ha hd0 hd
  have b2 := Rt.mul_bd hc0 hc hb0 hb
  obtain ⟨P, hP⟩ : ∃ P, a * d = P := ⟨_, rfl⟩
  obtain ⟨Q, hQ⟩ : ∃ Q, c * b = Q := ⟨_, rfl⟩
  rw [hP] at b1
  rw [hQ] at b2
  rw [hP, hQ] at hr
  by_cases h : P ≤ Q
  · have hh : decide (P ≤ Q) = true := decide_eq_true h
    obtain rfl : true = r := by rw [← hr, hh]
    clear hr
    go_enter Tryz.func20, Tryz.ntmps20
    go_wp2
    go_ret
    exact ⟨rfl, bal (ba _ _) _⟩
  · have hh : decide (P ≤ Q) = false := decide_eq_false h
    obtain rfl : false = r := by rw [← hr, hh]
    clear hr
    go_enter Tryz.func20, Tryz.ntmps20
    go_wp2
    go_ret
    exact ⟨rfl, bal (ba _ _) _⟩

end Go.Proofs.YtfibbjngllelbaaGreat
