import Derived.Test.YthmkbkombjhaeaaQw27
import Derived.Test.YthmkbkombjhaeaaQw21
import Derived.Test.YthmkbkombjhaeaaQw14
namespace Go.Proofs.Ythmkbkombjhaeaa
open Go.RowKit Go.Proofs.Ythmkbkombjhaeaa.Ds

theorem ownFor_any (B : Nat) (v : Value) (ts : List Tr) (w : World) (hB : B ≤ w.heap.size) (hp : Parts w B v ts) (l : List Pt) (er : Int) (hr : ownT (rd ts) = (l, er)) :
    Calls Try.prog 47 #[v, .bool true] w fun e w' => ∃ v' us, e = .returned (.tuple #[v', .int .i64 er]) ∧ rd us = l ∧ OwnN w' w.heap.size v' us ∧ Below w.heap.size w w' := by
  have kc := own_any B v ts w hB hp l er hr
  obtain ⟨a, c, rfl, _⟩ := hp
  clear hr
  go_enter Try.func47, Try.ntmps47
  go_wp2_with fail
  refine kc.mono ?_
  rintro e w1 ⟨v1, us, rfl, h1, h2, h3⟩
  obtain ⟨b1, d1, rfl⟩ := h2.slice
  have H2 : Hid (OwnN w1 w.heap.size (.slice b1 us.length d1) us ∧ rd us = l) := ⟨h2, h1⟩
  clear h1 h2 kc
  by_cases h0 : er = 0
  · subst h0
    go_wp2
    exact bodyPost_ret (v := .tuple #[.slice b1 us.length d1, .int .i64 0]) (by simp [results, Try.results47, go_sem]) rfl ⟨_, us, rfl, H2.out.2, H2.out.1, h3⟩
  · have h0' : (er == 0) = false := by simpa using h0
    go_wp2
    exact bodyPost_ret (v := .tuple #[.slice b1 us.length d1, .int .i64 er]) (by simp [results, Try.results47, go_sem]) rfl ⟨_, us, rfl, H2.out.2, H2.out.1, h3⟩
end Go.Proofs.Ythmkbkombjhaeaa

namespace Go.Proofs.Ythmkbkombjhaeaa
open Go.RowKit Go.Proofs.Ythmkbkombjhaeaa.Ds

theorem fn_there0 (d : Nat) (fn : Fn) (xs ys : Array Value) (w : World) : (Op.equalIn (d + 1) 64 (.func fn xs ys) .nilFunc).run Try.prog w = .ok false w := by
  simp only [Op.equalIn, Sem.run_bind, run_underlying Try.underlying64, Result.andThen_ok]
  rfl
theorem fn_there (fn : Fn) (xs ys : Array Value) (w : World) : (Op.equal 64 (.func fn xs ys) .nilFunc).run Try.prog w = .ok false w := fn_there0 9999 fn xs ys w
theorem fn_is (fn : Fn) (xs ys : Array Value) (w : World) : (binOp .neq 64 (.func fn xs ys) .nilFunc).run Try.prog w = .ok (.bool true) w := by
  simp only [binOp, Sem.run_bind, fn_there, Result.andThen_ok]
  rfl
end Go.Proofs.Ythmkbkombjhaeaa
