import Derived.Test.YtidfkencjdjkbaaDoorQr40
/-
  The document's own answer, chapter 15: thing: join, what it means.
-/
namespace Go.Proofs.YtidfkencjdjkbaaDoor
open Go.RowKit Sp

theorem infot25 : (Tryd.prog.info? 25).map (fun i => (i.zero, i.size, i.bytes)) = some (some (.agg #[.int .i64 0, .string ⟨#[]⟩, .int .i64 0, .int .i64 0, .slice none 0 0, .slice none 0 0]), 6, 88) := by kernel_rfl
theorem thg_join {q : List Pc → PR Qu} {ps : List Pc} (hx : hd ps = wJoin) : thgP q ps = match bthP q ps.tail with
    | .error e => .error e
    | .ok (ab, r) => .ok (.node 7 [] 0 0 [] 2 ab.1 ab.2, r) := by
  rw [thgP, if_neg (by rw [hx]; decide), if_neg (by rw [hx]; decide), if_neg (by rw [hx]; decide), if_neg (by rw [hx]; decide), if_neg (by rw [hx]; decide), if_neg (by rw [hx]; decide), if_pos hx]
  cases bthP q ps.tail <;> rfl
theorem bth_st {q : List Pc → PR Qu} (ps : List Pc) (s5 : St) (h5 : nxS (onS (tk sOpen) (.ok ps)) = s5) (r6 : PR Qu) (h6 : onS q s5 = r6) (s7 : St) (h7 : nxS (onS (tk sComma) (nxS r6)) = s7) (r8 : PR Qu) (h8 : onS q s7 = r8) (s9 : St) (h9 : nxS (onS (tk sShut) (nxS r8)) = s9) :
    (∀ qq, s9 = .ok qq → ∃ a q1 b q2, r6 = .ok (a, q1) ∧ r8 = .ok (b, q2) ∧ bthP q ps = .ok ((a, b), qq)) ∧ (∀ e, s9 = .error e → bthP q ps = .error e) := by
  subst h9
  subst h8
  subst h7
  subst h6
  subst h5
  simp only [onS, bthP]
  cases tk sOpen ps with
  | error e => exact ⟨fun qq h => (by cases h), fun e' h => (by cases h; rfl)⟩
  | ok x =>
    obtain ⟨u, q1⟩ := x
    simp only [nxS]
    cases q q1 with
    | error e => exact ⟨fun qq h => (by cases h), fun e' h => (by cases h; rfl)⟩
    | ok y =>
      obtain ⟨a, q2⟩ := y
      simp only
      cases tk sComma q2 with
      | error e => exact ⟨fun qq h => (by cases h), fun e' h => (by cases h; rfl)⟩
      | ok z =>
        obtain ⟨v, q3⟩ := z
        simp only
        cases q q3 with
        | error e => exact ⟨fun qq h => (by cases h), fun e' h => (by cases h; rfl)⟩
        | ok y2 =>
          obtain ⟨b, q4⟩ := y2
          simp only
          cases tk sShut q4 with
          | error e => exact ⟨fun qq h => (by cases h), fun e' h => (by cases h; rfl)⟩
          | ok z2 => obtain ⟨v2, q5⟩ := z2; exact ⟨fun qq h => (by cases h; exact ⟨a, q2, b, q4, rfl, rfl, rfl⟩), fun e' h => (by cases h)⟩
/-- thing, but for join -/
theorem thing_of {q : List Pc → PR Qu} {lv : Int} (hl : 1 ≤ lv ∧ lv ≤ 64) (hq : QS 19 (lv + 1) q) (hj : ∀ (w : World) (R P0 : Nat) (ps : List Pc) (r : PR Qu), SS w R P0 (.ok ps) → hd ps = wJoin → thgP q ps = r → Calls Tryd.prog 49 #[ptR R, .int .i64 lv] w (SP w R P0 (VN w.heap.size) GN r)) : QA 49 lv (thgP q) := by
  intro w R P0 ps r h hr
  by_cases n0 : hd ps = wCount
  · exact thing_count lv h n0 hr
  by_cases n1 : hd ps = wBins
  · exact thing_bins lv h n1 hr
  by_cases n2 : hd ps = wSum
  · exact thing_sum lv h n2 hr
  by_cases n3 : hd ps = wTotal
  · exact thing_total hl hq h n3 hr
  by_cases n4 : hd ps = wClamp
  · exact thing_clamp hl hq h n4 hr
  by_cases n5 : hd ps = wJoin
  · exact hj w R P0 ps r h n5 hr
  exact thing_brk hl hq h n0 n1 n2 n3 n4 n5 hr
/-- all levels, if join is as it should be -/
theorem levels_of (hj : ∀ (k : Nat) (lv : Int), lv = 64 - (k : Int) → k ≤ 63 → QS 19 (lv + 1) (qusP (prdP k) 64) → ∀ (w : World) (R P0 : Nat) (ps : List Pc) (r : PR Qu), SS w R P0 (.ok ps) → hd ps = wJoin → thgP (qusP (prdP k) 64) ps = r → Calls Tryd.prog 49 #[ptR R, .int .i64 lv] w (SP w R P0 (VN w.heap.size) GN r)) :
    ∀ k : Nat, k ≤ 64 → (1 ≤ k → QS 34 (65 - (k : Int)) (prdP k)) ∧ QS 19 (65 - (k : Int)) (qusP (prdP k) 64)
  | 0, _ => ⟨fun h => by omega, ask_top⟩
  | k + 1, hk => by
    obtain ⟨h1, h2⟩ := levels_of hj k (by omega)
    have e : (65 : Int) - ((k + 1 : Nat) : Int) = 64 - (k : Int) := by omega
    have e2 : (65 : Int) - (k : Int) = (64 - (k : Int)) + 1 := by omega
    rw [e2] at h1 h2
    rw [e]
    have ht := thing_of (lv := 64 - (k : Int)) ⟨by omega, by omega⟩ h2 (hj k _ rfl (by omega) h2)
    have hp := times_of rfl (by omega) ht h1
    exact ⟨fun _ => hp, ask_of (by omega) hp⟩
end Go.Proofs.YtidfkencjdjkbaaDoor
