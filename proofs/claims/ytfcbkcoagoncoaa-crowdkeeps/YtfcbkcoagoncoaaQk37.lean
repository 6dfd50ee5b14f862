import Derived.Test.YtfcbkcoagoncoaaQk36
import Derived.Shelf.Bits.Mul64
import Derived.Shelf.SlGeneric
import Derived.Ground.NamesProg
import Derived.Test.YtfcbkcoagoncoaaProg
namespace Go.Proofs.Ytfcbkcoagoncoaa
open Go.RowKit Go.Shelf Go.Proofs.Ytfcbkcoagoncoaa.Ds
attribute [local go_sem] Oper.semAt_some

/-- the two parts of a round, in their boxes -/
def Two2 {w : World} {B : Nat} {M : Int} (W : World) (Bx : Nat) (x : PP w B M) : Prop :=
  W.heap[Bx]? = some (.cells #[x.1.1.1, .int .i64 x.1.1.2.2] 37 (0, 0)) ∧ W.heap[Bx + 1]? = some (.cells #[x.1.2.1, .int .i64 x.1.2.2.2] 37 (0, 0))

theorem Two2.own {w : World} {B : Nat} {M : Int} {W W' : World} {Bx : Nat} {x : PP w B M} {row : Option Nat} (h : Two2 W Bx x) (hg : W.grownBy W' row) (hr : ∀ r, row = some r → ∃ o : Obj, W.heap[r]? = some o ∧ o.isCells = false) : Two2 W' Bx x := by
  have key : ∀ (k : Nat) (o : Obj), W.heap[k]? = some o → o.isCells = true → W'.heap[k]? = some o := by
    intro k o hk ho
    rw [hg.block k (Array.getElem?_eq_some_iff.1 hk).1 ?_, hk]
    intro e
    obtain ⟨o', h1, h2⟩ := hr k e.symm
    rw [hk] at h1
    simp only [Option.some.injEq] at h1
    subst h1
    rw [ho] at h2
    cases h2
  exact ⟨key _ _ h.1 rfl, key _ _ h.2 rfl⟩

theorem Two2.cells {w : World} {B : Nat} {M : Int} {W : World} {Bx : Nat} {x : PP w B M} (h : Two2 W Bx x) :
    W.cell? ⟨Bx, 0, none⟩ = some x.1.1.1 ∧ W.cell? ⟨Bx, 1, none⟩ = some (.int .i64 x.1.1.2.2) ∧ W.cell? ⟨Bx + 1, 0, none⟩ = some x.1.2.1 ∧ W.cell? ⟨Bx + 1, 1, none⟩ = some (.int .i64 x.1.2.2.2) := by
  obtain ⟨h1, h2⟩ := h
  simp [World.cell?, h1, h2]

theorem two2_new {w : World} {B : Nat} {M : Int} (W : World) (x : PP w B M) : Two2 ((W.alloc (.cells #[x.1.1.1, .int .i64 x.1.1.2.2] 37)).alloc (.cells #[x.1.2.1, .int .i64 x.1.2.2.2] 37)) W.heap.size x := by
  refine ⟨?_, ?_⟩
  · rw [Below.heap_alloc _ _ _ (by simp)]; exact World.alloc_heap_new W _
  · have := World.alloc_heap_new (W.alloc (.cells #[x.1.1.1, .int .i64 x.1.1.2.2] 37)) (.cells #[x.1.2.1, .int .i64 x.1.2.2.2] 37)
    rwa [World.size_alloc] at this

end Go.Proofs.Ytfcbkcoagoncoaa

/-
  DERIVED: THE SHELF's CONTRACTS AT THIS DUMP, IN PLAIN WORDS (tools/lay-plain.mjs out of 'YtfcbkcoagoncoaaShelf2.lean', which tools/lay-shelf.mjs wrote): THE SAME DECLARATIONS UNDER THE SAME NAMES: 'import', 'namespace', 'open', 'def', 'theorem' AND NOTHING ELSE: no command of the shelf's: FOR A HAND-IN. Each laying: the table of numbers ('.._ren') and one theorem, a field a fact of the dump's own or the kernel's comparison; each contract: ONE APPLICATION.
-/
namespace Go.Proofs
open Go.Shelf
def Try.mul64_ren : Go.Shelf.Ren := ⟨fun | 264 => 45 | n => n, fun | 53 => 72 | 46 => 85 | n => n, fun | n => n⟩
theorem Try.mul64 : Go.Proofs.Lays.n264 Try.prog Try.mul64_ren := {
  mixed := by kernel_rfl
  f264 := Try.func45.trans (congrArg some (by kernel_rfl))
  t46 := Try.underlying85
  a46 := Try.isAgg85
  z46 := Try.sizeOf85
  v46 := Try.zeroValue85
  t53 := Try.underlying72
  a53 := Try.isAgg72
  z53 := Try.sizeOf72
  v53 := Try.zeroValue72 }
end Go.Proofs

namespace Go.Proofs.Ytfcbkcoagoncoaa
open Go.RowKit Go.Shelf Go.Proofs.Ytfcbkcoagoncoaa.Ds

theorem mul64_any (x y : Nat) (hx : x < 18446744073709551616) (hy : y < 18446744073709551616) (w : World) :
    Calls Try.prog 45 #[.int .u64 x, .int .u64 y] w fun e w' => e = .returned (.tuple #[.int .u64 ((x * y / 18446744073709551616 : Nat) : Int), .int .u64 ((x * y % 18446744073709551616 : Nat) : Int)]) ∧ w' = w :=
  Any.bits_Mul64 Try.mul64 x y hx hy w

set_option maxHeartbeats 1000000 in
theorem above_any (a b c d : Nat) (ha : a ≤ 1152921504606846976) (hb : b ≤ 1152921504606846976) (hc : c ≤ 1152921504606846976) (hd : d ≤ 1152921504606846976) (r : Bool) (hr : decide (c * b < a * d) = r) (w : World) :
    Calls Try.prog 31 #[.int .i64 a, .int .i64 b, .int .i64 c, .int .i64 d] w fun e w' => e = .returned (.bool r) ∧ w' = w := by
  have k1 := mul64_any a d (by omega) (by omega) w
  have k2 := mul64_any c b (by omega) (by omega) w
  have HR : Hid (decide (c * b < a * d) = r) := hr
  clear hr
  obtain ⟨P, hP⟩ : ∃ P, a * d = P := ⟨_, rfl⟩
  obtain ⟨Q, hQ⟩ : ∃ Q, c * b = Q := ⟨_, rfl⟩
  rw [hP] at k1
  rw [hQ] at k2
  rw [hP, hQ] at HR
  obtain ⟨ph, hph⟩ : ∃ x, P / 18446744073709551616 = x := ⟨_, rfl⟩
  obtain ⟨pl, hpl⟩ : ∃ x, P % 18446744073709551616 = x := ⟨_, rfl⟩
  obtain ⟨qh, hqh⟩ : ∃ x, Q / 18446744073709551616 = x := ⟨_, rfl⟩
  obtain ⟨ql, hql⟩ : ∃ x, Q % 18446744073709551616 = x := ⟨_, rfl⟩
  rw [hph, hpl] at k1
  rw [hqh, hql] at k2
  have HD : Hid (P = ph * 18446744073709551616 + pl ∧ Q = qh * 18446744073709551616 + ql ∧ pl < 18446744073709551616 ∧ ql < 18446744073709551616) := by
    refine ⟨?_, ?_, ?_, ?_⟩ <;> omega
  have w1 : IntKind.u64.wrap (a : Int) = a := by rw [IntKind.wrap_u64]; omega
  have w2 : IntKind.u64.wrap (b : Int) = b := by rw [IntKind.wrap_u64]; omega
  have w3 : IntKind.u64.wrap (c : Int) = c := by rw [IntKind.wrap_u64]; omega
  have w4 : IntKind.u64.wrap (d : Int) = d := by rw [IntKind.wrap_u64]; omega
  clear hP hQ hph hpl hqh hql
  by_cases h1 : qh < ph
  · have hr1 : r = true := by rw [← HR.out]; exact decide_eq_true (by have := HD.out; omega)
    subst hr1
    go_enter Try.func31, Try.ntmps31
    go_wp2_with fail
    refine k1.mono ?_
    rintro e w' ⟨rfl, rfl⟩
    go_wp2_with fail
    refine k2.mono ?_
    rintro e w' ⟨rfl, rfl⟩
    go_wp2
    go_ret
    exact ⟨rfl, rfl⟩
  · by_cases h2 : ph = qh
    · subst h2
      by_cases h3 : ql < pl
      · have hr1 : r = true := by rw [← HR.out]; exact decide_eq_true (by have := HD.out; omega)
        subst hr1
        go_enter Try.func31, Try.ntmps31
        go_wp2_with fail
        refine k1.mono ?_
        rintro e w' ⟨rfl, rfl⟩
        go_wp2_with fail
        refine k2.mono ?_
        rintro e w' ⟨rfl, rfl⟩
        go_wp2
        go_ret
        exact ⟨rfl, rfl⟩
      · have hr1 : r = false := by rw [← HR.out]; exact decide_eq_false (by have := HD.out; omega)
        subst hr1
        go_enter Try.func31, Try.ntmps31
        go_wp2_with fail
        refine k1.mono ?_
        rintro e w' ⟨rfl, rfl⟩
        go_wp2_with fail
        refine k2.mono ?_
        rintro e w' ⟨rfl, rfl⟩
        go_wp2
        go_ret
        exact ⟨rfl, rfl⟩
    · have hr1 : r = false := by rw [← HR.out]; exact decide_eq_false (by have := HD.out; omega)
      have h2' : ((ph : Int) == (qh : Int)) = false := by simp; omega
      subst hr1
      go_enter Try.func31, Try.ntmps31
      go_wp2_with fail
      refine k1.mono ?_
      rintro e w' ⟨rfl, rfl⟩
      go_wp2_with fail
      refine k2.mono ?_
      rintro e w' ⟨rfl, rfl⟩
      go_wp2
      go_ret
      exact ⟨rfl, rfl⟩
end Go.Proofs.Ytfcbkcoagoncoaa
