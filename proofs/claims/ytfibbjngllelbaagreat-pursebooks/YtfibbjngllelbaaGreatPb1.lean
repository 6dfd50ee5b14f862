import Derived.Test.YtfibbjngllelbaaGreatPnq
namespace Go.Proofs.YtfibbjngllelbaaGreat
open Go.RowKit Go.Shelf Go.Proofs.YtfibbjngllelbaaGreat.Ds

set_option maxRecDepth 100000 in
set_option maxHeartbeats 1000000 in
theorem book1_any (E Bn Bk nb nc i : Nat) (xs : List (List UInt8)) (x : List UInt8) (w : World) (hi : i < xs.length) (hsm : xs.length ≤ 4096)
    (h5 : w.cell? ⟨E, 5, none⟩ = some (.bool true)) (f5 : w.frozen? ⟨E, 5, none⟩ = false) (h2 : w.cell? ⟨E, 2, none⟩ = some (.slice (some ⟨nb, 0, none⟩) xs.length nc)) (hx : w.cell? ⟨nb, i, none⟩ = some (encStr x))
    (hn : w.cell? ⟨Bn, 0, none⟩ = some (.bool false)) (fn : w.frozen? ⟨Bn, 0, none⟩ = false) (hk : w.cell? ⟨Bk, 0, none⟩ = some (.int .i64 (i : Int))) (fk : w.frozen? ⟨Bk, 0, none⟩ = false)
    (d1 : E ≠ Bn) (d2 : E ≠ Bk) (d3 : Bn ≠ Bk) (r : Bool) (hr : decide (xs.length / 2 < i + 1) = !r) :
    Calls Tryz.prog 16 #[encStr x, .pointer (some ⟨E, 0, none⟩), .pointer (some ⟨Bn, 0, none⟩), .pointer (some ⟨Bk, 0, none⟩)] w fun e w' =>
      e = .returned (.bool r) ∧ w' = ((w.setCell ⟨E, 5, none⟩ (.bool true)).setCell ⟨Bk, 0, none⟩ (.int .i64 ((i : Int) + 1))).setCell ⟨Bn, 0, none⟩ (.bool (!r)) := by
  have ht : (xs.length : Int).tdiv 2 = ((xs.length / 2 : Nat) : Int) := by rw [Int.tdiv_eq_ediv_of_nonneg (by omega)]; rfl
  have hw : IntKind.i64.wrap ((i : Int) + 1) = (i : Int) + 1 := by rw [IntKind.wrap_i64]; omega
  have hil : (i : Int) < (xs.length : Int) := by omega
  have hd1 : Bn ≠ E := fun e => d1 e.symm
  have hd2 : Bk ≠ E := fun e => d2 e.symm
  have hd3 : Bk ≠ Bn := fun e => d3 e.symm
  obtain ⟨hf, hhf⟩ : ∃ hf, xs.length / 2 = hf := ⟨_, rfl⟩
  rw [hhf] at ht hr
  have hhb : hf ≤ 4096 := by omega
  clear hhf
  cases r with
  | true =>
    have hq : decide ((hf : Int) < (i : Int) + 1) = false := decide_eq_false (by have := of_decide_eq_false (by simpa using hr : decide (hf < i + 1) = false); omega)
    clear hr
    go_enter Tryz.func16, Tryz.ntmps16
    go_wp2
    go_ret
    exact ⟨rfl, rfl⟩
  | false =>
    have hq : decide ((hf : Int) < (i : Int) + 1) = true := decide_eq_true (by have := of_decide_eq_true (by simpa using hr : decide (hf < i + 1) = true); omega)
    clear hr
    go_enter Tryz.func16, Tryz.ntmps16
    go_wp2
    go_ret
    exact ⟨rfl, rfl⟩
end Go.Proofs.YtfibbjngllelbaaGreat
