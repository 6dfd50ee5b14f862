import Derived.Test.YtcglfojbgdlbhaaOwn
namespace Go.Proofs.Ytcglfojbgdlbhaa
open Go.RowKit Go.Proofs.Ytcglfojbgdlbhaa.Ds

theorem fn_there0 (d : Nat) (fn : Fn) (xs ys : Array Value) (w : World) : (Op.equalIn (d + 1) 73 (.func fn xs ys) .nilFunc).run Try.prog w = .ok false w := by
  simp only [Op.equalIn, Sem.run_bind, run_underlying Try.underlying73, Result.andThen_ok]
  rfl
theorem fn_there (fn : Fn) (xs ys : Array Value) (w : World) : (Op.equal 73 (.func fn xs ys) .nilFunc).run Try.prog w = .ok false w := fn_there0 9999 fn xs ys w
theorem fn_is (fn : Fn) (xs ys : Array Value) (w : World) : (binOp .neq 73 (.func fn xs ys) .nilFunc).run Try.prog w = .ok (.bool true) w := by
  simp only [binOp, Sem.run_bind, fn_there, Result.andThen_ok]
  rfl
end Go.Proofs.Ytcglfojbgdlbhaa
