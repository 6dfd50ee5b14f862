import Derived.Test.YtedfdbcoinfjaaaTco
import Derived.Test.YtedfdbcoinfjaaaTnu
namespace Go.Proofs.Ytedfdbcoinfjaaa
open Go.RowKit Go.Proofs.Ytedfdbcoinfjaaa.Ds

/-- what was told of a node: none, where there is none or a number beside it is beyond the bounds -/
def toT (tt : List (List Int)) (s : Sp) : Option Int :=
  let x := tt.getD ((s.2 + 1) * 2 ^ s.1 - 1) []
  if x.length ≤ s.1 ∨ x.any badB = true then none else some (x.getD s.1 0)
/-- added up, from so much on -/
def soA (tt : List (List Int)) : List Sp → Int → Int × Int
  | [], n => (n, 0)
  | s :: l, n => match toT tt s with
    | none => (0, 8)
    | some x => soA tt l (n + x)
theorem soA_none {tt : List (List Int)} {l : List Sp} {i : Nat} {s : Sp} {n : Int} (h : l[i]? = some s) (hn : toT tt s = none) : soA tt (l.drop i) n = (0, 8) := by
  rw [List.drop_eq_getElem_cons (List.getElem?_eq_some_iff.1 h).1, (List.getElem?_eq_some_iff.1 h).2]
  simp [soA, hn]
theorem soA_some {tt : List (List Int)} {l : List Sp} {i : Nat} {s : Sp} {n x : Int} (h : l[i]? = some s) (hn : toT tt s = some x) : soA tt (l.drop i) n = soA tt (l.drop (i + 1)) (n + x) := by
  rw [List.drop_eq_getElem_cons (List.getElem?_eq_some_iff.1 h).1, (List.getElem?_eq_some_iff.1 h).2]
  simp [soA, hn]
theorem toT_some {tt : List (List Int)} {s : Sp} {xs : List Int} (h : tt[(s.2 + 1) * 2 ^ s.1 - 1]? = some xs) : toT tt s = if xs.length ≤ s.1 ∨ xs.any badB = true then none else some (xs.getD s.1 0) := by
  unfold toT
  rw [List.getD, h]
  rfl
theorem good_bd {xs : List Int} {i : Nat} {x : Int} (h : xs.any badB = false) (hx : xs[i]? = some x) : -1073741824 ≤ x ∧ x ≤ 1073741824 := by
  have : badB x = false := by
    rcases hb : badB x with _ | _
    · rfl
    · rw [Non.hit hx hb] at h; cases h
  simp [badB] at this
  omega

theorem last_any (sl sa p m : Nat) (hsl : sl ≤ 10) (hsa : sa ≤ 1024) (hp : 2 ^ sl = p) (hm : (sa + 1) * p = m) (hm1 : 1 ≤ m) (hm2 : m ≤ 1024) (w : World) : Calls Try.prog 17 #[.agg #[.int .i64 (sl : Int), .int .i64 (sa : Int)]] w fun e w' => e = .returned (.int .i64 ((m - 1 : Nat) : Int)) ∧ Below w.heap.size w w' := by
  have kl := fun W => len_any sl hsl W
  have hp4 : p ≤ 1024 := by rw [← hp]; exact pow_le (Nat.le_refl _) hsl
  simp only [hp] at kl
  have hmi : ((sa : Int) + 1) * (p : Int) = (m : Int) := by rw [← hm]; simp
  obtain ⟨X, hX⟩ : ∃ X, w.alloc (.cells #[.int .i64 (sl : Int), .int .i64 (sa : Int)] 37) = X := ⟨_, rfl⟩
  have bX : Below w.heap.size w X := by rw [← hX]; exact ba _ _
  have TX : Hid (TwoB X w.heap.size (.int .i64 (sl : Int)) (.int .i64 (sa : Int))) := by rw [← hX]; exact TwoB.new _ _ _ 37 _ rfl
  obtain ⟨t0, t1, _, _, hlt⟩ := TX.out
  clear hp hm
  go_enter Try.func17, Try.ntmps17
  go_wp2
  go_quiet ((go_at_call 15; refine Calls.quiet_of_same (kl _)))
  go_wp2
  go_ret
  exact ⟨by simp; try omega, below_drewN bX _⟩
end Go.Proofs.Ytedfdbcoinfjaaa
