import Derived.Test.YtnoedkebmpfagaaWbs
/-
  PACKAGE wire, what is left: has, take.
-/
namespace Go.Proofs.Ytnoedkebmpfagaa
open Go.RowKit Wc

theorem has_any {w : World} {R : Nat} {a : Option Addr} {len c : Nat} (h : Cl w R 0 (.slice a len c)) (hl : len ≤ 9223372036854775807) (n : Nat) (b : Bool) (hb : decide (n ≤ len) = b) :
    Calls Try.prog 50 #[ptR R, .int .u64 (n : Int)] w fun e w' => e = .returned (.bool b) ∧ w' = w := by
  have c0 := h.c
  have hw : IntKind.u64.wrap (len : Int) = (len : Int) := by rw [IntKind.wrap_u64]; omega
  cases b with
  | true =>
    have z : (n : Int) ≤ (len : Int) := by have := of_decide_eq_true hb; omega
    clear h hb
    go_enter Try.func50, Try.ntmps50
    go_wp2
    go_ret
    exact ⟨rfl, rfl⟩
  | false =>
    have z : ¬ (n : Int) ≤ (len : Int) := by have := of_decide_eq_false hb; omega
    clear h hb
    go_enter Try.func50, Try.ntmps50
    go_wp2
    go_ret
    exact ⟨rfl, rfl⟩
theorem take_no {w : World} {R : Nat} {a : Option Addr} {len c : Nat} (h : Cl w R 0 (.slice a len c)) (hl : len ≤ 9223372036854775807) (n : Nat) (hn : ¬ n ≤ len) :
    Calls Try.prog 44 #[ptR R, .int .u64 (n : Int)] w fun e w' => e = .returned (.tuple #[.string (tx []), .bool false]) ∧ w' = w := by
  have k := has_any h hl n false (by simpa using hn)
  clear h
  go_enter Try.func44, Try.ntmps44
  go_wp2_with fail
  refine k.mono ?_
  rintro e w1 ⟨rfl, rfl⟩
  clear k
  go_wp2
  go_ret2
  exact ⟨rfl, rfl⟩
/-- what is left behind the first n -/
abbrev offA (a : Option Addr) (c n : Nat) : Option Addr := if c = n then a else a.map fun p => p.add n
theorem take_yes {w : World} {R : Nat} {a : Option Addr} {len c : Nat} (h : Cl w R 0 (.slice a len c)) (hlc : len ≤ c) (hl : c ≤ 9223372036854775807) (n : Nat) (hn : n ≤ len) (t : By) (hc : (convert 47 9 (.slice a n c)).run Try.prog w = .ok (.string (tx t)) w) :
    Calls Try.prog 44 #[ptR R, .int .u64 (n : Int)] w fun e w' => e = .returned (.tuple #[.string (tx t), .bool true]) ∧ w' = w.setCell ⟨R, 0, none⟩ (.slice (offA a c n) (len - n) (c - n)) := by
  have k := has_any h (by omega) n true (by simpa using hn)
  have c0 := h.c
  have f0 := h.f
  have z1 : (n : Int) ≤ (len : Int) := by omega
  have z2 : (n : Int) ≤ (c : Int) := by omega
  have z3 : (len : Int) ≤ (c : Int) := by omega
  obtain ⟨A, hA⟩ : ∃ A, offA a c n = A := ⟨_, rfl⟩
  rw [hA]
  clear h
  unfold offA at hA
  go_enter Try.func44, Try.ntmps44
  go_wp2_with fail
  refine k.mono ?_
  rintro e w1 ⟨rfl, rfl⟩
  clear k
  go_wp2
  go_ret2
  exact ⟨rfl, rfl⟩
end Go.Proofs.Ytnoedkebmpfagaa
