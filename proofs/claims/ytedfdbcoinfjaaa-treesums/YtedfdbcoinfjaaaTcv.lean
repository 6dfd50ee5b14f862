import Derived.Test.YtedfdbcoinfjaaaTfn
namespace Go.Proofs.Ytedfdbcoinfjaaa
open Go.RowKit Go.Proofs.Ytedfdbcoinfjaaa.Ds

def encP (l : List Sp) : List Value := l.flatMap fun s => [.int .i64 (s.1 : Int), .int .i64 (s.2 : Int)]
theorem encP_len (l : List Sp) : (encP l).length = l.length * 2 := by
  induction l with
  | nil => rfl
  | cons e l ih => simp only [encP, List.flatMap_cons, List.length_append, List.length_cons] at *; rw [ih]; simp; omega
theorem encP_snoc (l : List Sp) (r : Sp) : encP (l ++ [r]) = encP l ++ [.int .i64 (r.1 : Int), .int .i64 (r.2 : Int)] := by simp [encP]
theorem encP_get {l : List Sp} {i : Nat} {x : Sp} (h : l[i]? = some x) : (encP l)[i * 2]? = some (.int .i64 (x.1 : Int)) ∧ (encP l)[i * 2 + 1]? = some (.int .i64 (x.2 : Int)) := by
  induction l generalizing i with
  | nil => simp at h
  | cons y l ih =>
    cases i with
    | zero => simp at h; subst h; simp [encP]
    | succ i =>
      simp only [List.getElem?_cons_succ] at h
      have := ih h
      have e : ∀ k, (encP (y :: l))[(i + 1) * 2 + k]? = (encP l)[i * 2 + k]? := fun k => by
        have : encP (y :: l) = [.int .i64 (y.1 : Int), .int .i64 (y.2 : Int)] ++ encP l := by simp [encP]
        rw [this, List.getElem?_append_right (by simp; omega)]
        simp only [List.length_cons, List.length_nil]
        congr 1; omega
      exact ⟨by rw [← this.1]; exact e 0, by rw [← this.2]; exact e 1⟩
theorem info37 : (Try.prog.info? 37).map (fun i => (i.zero, i.size, i.bytes)) = some (some (.agg #[.int .i64 0, .int .i64 0]), 2, 16) := by kernel_rfl
theorem shr_nat (b k : Nat) : (b : Int) / 2 ^ k = ((b / 2 ^ k : Nat) : Int) := by simp

theorem cover_bad (h t : Int) (hb : ¬ (0 ≤ h ∧ h ≤ 10) ∨ (∃ k : Nat, h = k ∧ k ≤ 10 ∧ (t < 0 ∨ ((2 ^ k : Nat) : Int) < t))) (w : World) : Calls Try.prog 8 #[.int .i64 h, .int .i64 t] w fun e w' => e = .returned (.tuple #[.slice none 0 0, .int .i64 3]) ∧ w' = w := by
  rcases hb with hb | ⟨k, rfl, hk, hb⟩
  · have kt := fun W => tall_any h false (decide_eq_false hb) W
    go_enter Try.func8, Try.ntmps8
    go_wp2_with fail
    refine (kt _).mono ?_
    rintro e1 w1 ⟨rfl, rfl⟩
    go_wp2
    go_ret2
    exact ⟨rfl, rfl⟩
  · have kt := fun W => tall_any (k : Int) true (decide_eq_true (by omega)) W
    have kl := fun W => len_any k hk W
    by_cases h0 : t < 0
    · go_enter Try.func8, Try.ntmps8
      go_wp2_with fail
      refine (kt _).mono ?_
      rintro e1 w1 ⟨rfl, rfl⟩
      go_wp2
      go_ret2
      exact ⟨rfl, rfl⟩
    · have h1 : t > ((2 ^ k : Nat) : Int) := by rcases hb with h | h; exact absurd h h0; exact h
      obtain ⟨q, hq⟩ : ∃ q, 2 ^ k = q := ⟨_, rfl⟩
      simp only [hq] at kl h1
      go_enter Try.func8, Try.ntmps8
      go_wp2_with fail
      refine (kt _).mono ?_
      rintro e1 w1 ⟨rfl, rfl⟩
      go_wp2_with fail
      refine (kl _).mono ?_
      rintro e2 w2 ⟨rfl, rfl⟩
      go_wp2
      go_ret2
      exact ⟨rfl, rfl⟩
end Go.Proofs.Ytedfdbcoinfjaaa
