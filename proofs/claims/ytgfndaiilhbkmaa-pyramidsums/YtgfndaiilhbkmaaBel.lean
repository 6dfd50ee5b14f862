import Derived.Test.YtgfndaiilhbkmaaLin
namespace Go.Proofs.Ytgfndaiilhbkmaa
open Go.RowKit Go.Shelf Go.Proofs.Ytgfndaiilhbkmaa.Ds
attribute [local go_sem] Oper.semAt_some

/-- a node just below another one -/
abbrev Kid (w m : Nat) := { x : Nat // ∃ k, k < w ∧ x = w * m + 1 + k }
def encK {w m : Nat} (x : Kid w m) : Array Value := #[.int .i64 (x.1 : Int)]
def kids (w m k : Nat) : List Nat := (List.range k).map fun j => w * m + 1 + j
theorem kids_succ (w m k : Nat) : kids w m (k + 1) = kids w m k ++ [w * m + 1 + k] := by simp [kids, List.range_succ]
/-- what a round leaves as it was: the two boxes of the iterator -/
def KpS (A B : Nat) (W W' : World) : Prop := W'.heap[A]? = W.heap[A]? ∧ W'.heap[B]? = W.heap[B]?
theorem KpS.t {A B : Nat} {X Y Z : World} (h : KpS A B X Y) (k : KpS A B Y Z) : KpS A B X Z := ⟨k.1.trans h.1, k.2.trans h.2⟩

set_option maxRecDepth 100000 in
set_option maxHeartbeats 2000000 in
theorem below1_in (n : Nat) (hn : 1 ≤ n) (y Bs Bn w m : Nat) (b c d : Value) (hw : w ≤ 16) (hm : m ≤ 1024) (J Jx : List (Kid w m) → World → Prop) (W : World) (hJW : ∀ pre W1, J pre W1 → J pre W1.drew)
    (hY : ∀ pre x W1, J pre W1 → pre.length < w → YieldAt Fence.wide (n - 1) Try.prog y (encK x) W1 fun e W' =>
      (e = .returned (.bool true) ∧ J (pre ++ [x]) W' ∧ KpS Bs Bn W1 W') ∨ (e = .returned (.bool false) ∧ Jx (pre ++ [x]) W'))
    (hs : ShB W Bs (.int .i64 (w : Int)) b c d) (hb : Boxed W Bn 3 (.int .i64 (m : Int))) (h0 : J [] W) :
    CallsIn Fence.wide n Try.prog 41 #[.func (.yield y) #[] #[], .pointer (some ⟨Bs, 0, none⟩), .pointer (some ⟨Bn, 0, none⟩)] W fun e W' => (∃ v, e = .returned v) ∧
      ((∃ ys : List (Kid w m), ys.map (·.1) = kids w m w ∧ J ys W') ∨ (∃ pre : List (Kid w m), True ∧ Jx pre W')) := by
  have t0 := hs.c0
  refine callsIn_of_wp Try.func41 rfl trivial ?_ rfl
  simp only [Try.ntmps41, List.size_toArray, List.length_cons, List.length_nil, Nat.reduceAdd, Nat.reduceSub, Array.replicate_succ, Array.replicate_zero, List.push_toArray, List.append_toArray, List.nil_append, List.cons_append]
  gi_wp2
  clear t0
  gi_loopw [7] (fun s wr => ∃ (i : Nat) (pre : List (Kid w m)), s = .int .i64 (i : Int) ∧ i ≤ w ∧ Hid (pre.map (·.1) = kids w m i) ∧ Hid (J pre wr) ∧ Hid (ShB wr Bs (.int .i64 (w : Int)) b c d) ∧ Hid (Boxed wr Bn 3 (.int .i64 (m : Int)))) (fun s _ => w - (intOf s).toNat)
  case atStart => exact ⟨0, [], rfl, Nat.zero_le _, rfl, h0, hs, hb⟩
  case round =>
    obtain ⟨i, pre, rfl, hi, HP, HJ, HS, HB⟩ := hrel
    by_cases c1 : i < w
    · have hpl : pre.length = i := by have := congrArg List.length HP.out; simpa [kids] using this
      obtain ⟨x, hx⟩ : ∃ x : Kid w m, x.1 = w * m + 1 + i := ⟨⟨_, i, c1, rfl⟩, rfl⟩
      obtain ⟨q, hq⟩ : ∃ q, m * w = q := ⟨_, rfl⟩
      have hq2 : q ≤ 16384 := by rw [← hq]; exact Nat.le_trans (Nat.mul_le_mul hm hw) (by decide)
      have hqi : (m : Int) * (w : Int) = (q : Int) := by rw [← hq]; simp
      have hw1 : IntKind.i64.wrap ((m : Int) * (w : Int)) = (q : Int) := by rw [hqi, IntKind.wrap_i64]; omega
      have hxi : ((x.1 : Nat) : Int) = (q : Int) + 1 + (i : Int) := by rw [hx, Nat.mul_comm, hq]; simp
      obtain ⟨fn, tmps, assign, body, hy, hR⟩ := hY pre x wr HJ.out (by omega)
      simp only [encK, hxi] at hy
      have HX : Hid (x.1 = w * m + 1 + i) := hx
      have t0 := HS.out.c0
      have t1 := HB.out.cell
      have z1 : (i : Int) < (w : Int) := by omega
      clear hx hq hpl hxi
      gi_wp2
      refine hR.mono ?_
      rintro e W5 (⟨rfl, hJ5, hk5⟩ | ⟨rfl, hJx5⟩)
      · have HP5 : Hid ((pre ++ [x]).map (·.1) = kids w m (i + 1)) := by rw [Hid, List.map_append, HP.out, kids_succ]; simp [HX.out]
        have HJ5 : Hid (J (pre ++ [x]) W5) := hJ5
        have HS5 : Hid (ShB W5 Bs (.int .i64 (w : Int)) b c d) := HS.out.same hk5.1
        have HB5 : Hid (Boxed W5 Bn 3 (.int .i64 (m : Int))) := hk5.2.trans HB.out
        clear hJ5 hk5
        gi_wp2
        go_roundw
        case rel => exact ⟨i + 1, pre ++ [x], by go_num, by omega, HP5, HJ5, HS5, HB5⟩
        case measure => simp [intOf]; omega
      · gi_wp2
        refine bodyPost_ret (results_none rfl _ _ _) rfl ?_
        exact ⟨⟨_, rfl⟩, .inr ⟨pre ++ [x], trivial, hJx5⟩⟩
    · obtain rfl : i = w := by omega
      have z1 : ¬ (i : Int) < (i : Int) := by omega
      gi_wp2
      go_end0
      exact ⟨⟨_, rfl⟩, .inl ⟨pre, HP.out, HJ.out⟩⟩

theorem below_stops (n : Nat) (hn : 1 ≤ n) (Bs Bn w m : Nat) (b c d : Value) (hw : w ≤ 16) (hm : m ≤ 1024) (W : World) (hs : ShB W Bs (.int .i64 (w : Int)) b c d) (hb : Boxed W Bn 3 (.int .i64 (m : Int))) :
    SeqStopsK Fence.wide n Try.prog 41 #[.pointer (some ⟨Bs, 0, none⟩), .pointer (some ⟨Bn, 0, none⟩)] (encK (w := w) (m := m)) (KpS Bs Bn) (fun ys => ys.map (·.1) = kids w m w) (fun _ => True) w W :=
  fun y J Jx W' hW hJ _ hY h0 => below1_in n hn y Bs Bn w m b c d hw hm J Jx W' (fun pre W1 h1 => hJ pre W1 _ none h1 (gb_drew (gb_refl _ _)) (by simp)) hY (hs.at hW) ((hW.block Bn hb.lt).trans hb) h0

theorem below_in (n w H k l m : Nat) (W : World) :
    CallsIn Fence.wide n Try.prog 37 #[shV w H k l, .int .i64 (m : Int)] W fun e W' => e = .returned (.func (.func 41) #[] #[.pointer (some ⟨W.heap.size, 0, none⟩), .pointer (some ⟨W.heap.size + 1, 0, none⟩)]) ∧ W' = (W.alloc (.cells #[.int .i64 (w : Int), .int .i64 (H : Int), .int .i64 (k : Int), .int .i64 (l : Int)] 35)).alloc (.cells #[.int .i64 (m : Int)] 3) := by
  refine callsIn_wide.2 ?_
  go_enter Try.func37, Try.ntmps37
  go_wp2
  go_ret
  exact ⟨rfl, rfl⟩
end Go.Proofs.Ytgfndaiilhbkmaa
