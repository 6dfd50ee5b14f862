import Derived.Test.YtejeiahbnnechaaQmm
namespace Go.Proofs.Ytejeiahbnnechaa
open Go.RowKit Go.Proofs.Ytejeiahbnnechaa.Ds

/-- a test holds of a value -/
def tstB (d z v : Int) : Bool := if d = 1 then v == z else if d = 2 then decide (v < z) else if d = 3 then decide (v ≤ z) else if d = 4 then decide (z < v) else if d = 5 then decide (z ≤ v) else !(v == z)

/-- holding: which function -/
abbrev holV (d : Int) (p : Nat) : Value := .func (.func (85 + d.toNat)) #[] #[.pointer (some ⟨p, 0, none⟩)]
theorem hold_ok (d z : Int) (w : World) (hd : doB d = true) :
    Calls Try.prog 81 #[.int .i64 d, .int .i64 z] w fun e w' => e = .returned (holV d w.heap.size) ∧ w' = w.alloc (.cells #[.int .i64 z] 3) := by
  have hmf := hmf
  simp only [doB, decide_eq_true_eq] at hd
  go_enter Try.func81, Try.ntmps81
  by_cases h1 : d = 1
  · subst h1; go_wp2; go_ret; exact ⟨rfl, rfl⟩
  by_cases h2 : d = 2
  · subst h2; go_wp2; go_ret; exact ⟨rfl, rfl⟩
  by_cases h3 : d = 3
  · subst h3; go_wp2; go_ret; exact ⟨rfl, rfl⟩
  by_cases h4 : d = 4
  · subst h4; go_wp2; go_ret; exact ⟨rfl, rfl⟩
  by_cases h5 : d = 5
  · subst h5; go_wp2; go_ret; exact ⟨rfl, rfl⟩
  obtain rfl : d = 6 := by omega
  go_wp2; go_ret; exact ⟨rfl, rfl⟩
theorem hold_no (d z : Int) (w : World) (hd : doB d = false) :
    Calls Try.prog 81 #[.int .i64 d, .int .i64 z] w fun e w' => e = .panicked (chn 1) ∧ Below w.heap.size w w' := by
  have g1 : (d == 1) = false := by rw [beq_eq_false_iff_ne]; rintro rfl; simp [doB] at hd
  have g2 : (d == 2) = false := by rw [beq_eq_false_iff_ne]; rintro rfl; simp [doB] at hd
  have g3 : (d == 3) = false := by rw [beq_eq_false_iff_ne]; rintro rfl; simp [doB] at hd
  have g4 : (d == 4) = false := by rw [beq_eq_false_iff_ne]; rintro rfl; simp [doB] at hd
  have g5 : (d == 5) = false := by rw [beq_eq_false_iff_ne]; rintro rfl; simp [doB] at hd
  have g6 : (d == 6) = false := by rw [beq_eq_false_iff_ne]; rintro rfl; simp [doB] at hd
  clear hd
  go_enter Try.func81, Try.ntmps81
  go_wp2
  exact ⟨rfl, rfl, ba _ _⟩
/-- what such a function tells -/
theorem tst_any (d z v : Int) (p : Nat) (w : World) (hd : doB d = true) (hc : w.cell? ⟨p, 0, none⟩ = some (.int .i64 z)) :
    Calls Try.prog (85 + d.toNat) #[.int .i64 v, .pointer (some ⟨p, 0, none⟩)] w fun e w' => e = .returned (.bool (tstB d z v)) ∧ w' = w := by
  simp only [doB, decide_eq_true_eq] at hd
  by_cases h1 : d = 1
  · subst h1; go_enter Try.func86, Try.ntmps86; go_wp2; go_ret; exact ⟨rfl, rfl⟩
  by_cases h2 : d = 2
  · subst h2; go_enter Try.func87, Try.ntmps87; go_wp2; go_ret; exact ⟨rfl, rfl⟩
  by_cases h3 : d = 3
  · subst h3; go_enter Try.func88, Try.ntmps88; go_wp2; go_ret; exact ⟨rfl, rfl⟩
  by_cases h4 : d = 4
  · subst h4; go_enter Try.func89, Try.ntmps89; go_wp2; go_ret; exact ⟨rfl, rfl⟩
  by_cases h5 : d = 5
  · subst h5; go_enter Try.func90, Try.ntmps90; go_wp2; go_ret; exact ⟨rfl, rfl⟩
  obtain rfl : d = 6 := by omega
  go_enter Try.func91, Try.ntmps91; go_wp2; go_ret; exact ⟨rfl, rfl⟩
end Go.Proofs.Ytejeiahbnnechaa
