import Derived.Test.YtkpjjiomfgkobaaDoorRfr
import Derived.RangeFuncNested
import Derived.RangeFuncBound
import Derived.RangeFuncCalls
import Derived.RangeFuncLeaves
import Derived.Shelf.Abstract
import Derived.Shelf.RegionOpen
import Derived.WalkKit
import Derived.OwnWalkIn
import Derived.TacticsInMore
import Derived.LoopNIn
import Derived.LoopIn
namespace Go.Proofs.YtkpjjiomfgkobaaDoor
open Go.RowKit Go.Shelf Go.Proofs.YtkpjjiomfgkobaaDoor.Ds
attribute [local go_sem] Oper.semAt_some

/-- a column, and where it stands -/
abbrev IC (l : List Col) := { x : Nat × Col // l[x.1]? = some x.2 }
def encIC {l : List Col} (x : IC l) : Array Value := #[.int .i64 (x.1.1 : Int), .agg #[.string x.1.2.1, .int .i64 x.1.2.2]]
/-- what a round leaves as it was: all below n₀, and the block with the list -/
def KpB (n₀ Bx : Nat) (W W' : World) : Prop := Below n₀ W W' ∧ W'.heap[Bx]? = W.heap[Bx]?
theorem KpB.t {n₀ Bx : Nat} {A B C : World} (h : KpB n₀ Bx A B) (k : KpB n₀ Bx B C) : KpB n₀ Bx A C := ⟨h.1.trans k.1, k.2.trans h.2⟩
theorem KpB.cell {n₀ Bx k : Nat} {A B : World} {v : Value} (h : KpB n₀ Bx A B) (hc : A.cell? ⟨Bx, k, none⟩ = some v) : B.cell? ⟨Bx, k, none⟩ = some v :=
  (World.cell?_of_block (w := A) (a := ⟨Bx, k, none⟩) h.2).trans hc
theorem grown_of_below {W W' : World} (h : Below W.heap.size W W') : W.grownBy W' none := ⟨h.os, h.tape, h.output, h.size, fun k hk _ => h.block k hk⟩

/-- backwards -/
def Bwd {l : List Col} (ys : List (IC l)) : Prop := ys.length = l.length ∧ ∀ j x, ys[j]? = some x → x.1.1 + j + 1 = l.length

set_option maxRecDepth 100000 in
set_option maxHeartbeats 2000000 in
theorem backward1_in (n : Nat) (hn : 1 ≤ n) (y Bx n₀ : Nat) (v : Value) (l : List Col) (w : World) (J Jx : List (IC l) → World → Prop)
    (W : World) (hw : Below n₀ w W) (hsW : n₀ ≤ W.heap.size)
    (hY : ∀ pre x W1, J pre W1 → pre.length < l.length → YieldAt Fence.wide (n - 1) Tryd.prog y (encIC x) W1 fun e W' =>
      (e = .returned (.bool true) ∧ J (pre ++ [x]) W' ∧ KpB n₀ Bx W1 W') ∨ (e = .returned (.bool false) ∧ Jx (pre ++ [x]) W'))
    (ha : W.cell? ⟨Bx, 0, none⟩ = some v) (hp : Cols w n₀ v l) (h0 : J [] W) :
    CallsIn Fence.wide n Tryd.prog 56 #[.func (.yield y) #[] #[], .pointer (some ⟨Bx, 0, none⟩)] W fun e W' => (∃ v, e = .returned v) ∧
      ((∃ ys : List (IC l), Bwd ys ∧ J ys W') ∨ (∃ pre : List (IC l), True ∧ Jx pre W')) := by
  have HP : Hid (Cols w n₀ v l) := hp
  obtain ⟨aa, ca, rfl, hca, hla⟩ := hp.slice
  refine callsIn_of_wp Tryd.func56 rfl trivial ?_ rfl
  simp only [Tryd.ntmps56, List.size_toArray, List.length_cons, List.length_nil, Nat.reduceAdd, Nat.reduceSub, Array.replicate_succ, Array.replicate_zero, List.push_toArray, List.append_toArray, List.nil_append, List.cons_append]
  gi_wp2
  gi_loopw [3] (fun s wr => ∃ (k : Nat) (pre : List (IC l)), s = .int .i64 ((k : Int) - 1) ∧ pre.length + k = l.length ∧ Hid (∀ j x, pre[j]? = some x → x.1.1 + j + 1 = l.length) ∧ Hid (J pre wr) ∧ Hid (wr.cell? ⟨Bx, 0, none⟩ = some (.slice aa l.length ca)) ∧ Below n₀ w wr ∧ n₀ ≤ wr.heap.size) (fun s _ => (intOf s + 1).toNat)
  case atStart => exact ⟨l.length, [], by go_num, by simp, by simp [Hid], h0, ha, hw, hsW⟩
  case round =>
    obtain ⟨k, pre, rfl, hpk, HO, HJ, HA, hbl, hsz⟩ := hrel
    cases k with
    | zero =>
      gi_wp2
      go_end0
      exact ⟨⟨_, rfl⟩, .inl ⟨pre, ⟨by omega, HO.out⟩, HJ.out⟩⟩
    | succ k =>
      have hkl : k < l.length := by omega
      obtain ⟨b, o, nm, sz, rfl, hb, hg, c1, c2, _⟩ := (HP.out.keep hbl).get hsz (Below.refl _ wr) hkl
      obtain ⟨x, hx⟩ : ∃ x : IC l, x.1 = (k, (nm, sz)) := ⟨⟨(k, (nm, sz)), hg⟩, rfl⟩
      obtain ⟨fn, tmps, assign, body, hy, hR⟩ := hY pre x wr HJ.out (by omega)
      simp only [encIC, hx] at hy
      have hA := HA.out
      have HPK : Hid (pre.length + (k + 1) = l.length) := hpk
      clear hpk hg
      gi_wp2
      refine hR.mono ?_
      rintro e W5 (⟨rfl, hJ5, hk5⟩ | ⟨rfl, hJx5⟩)
      · have HO5 : Hid (∀ j z, (pre ++ [x])[j]? = some z → z.1.1 + j + 1 = l.length) := by
          intro j z hz
          by_cases hj : j < pre.length
          · rw [List.getElem?_append_left hj] at hz; exact HO.out j z hz
          · have hj2 : j = pre.length := by
              have := (List.getElem?_eq_some_iff.1 hz).1
              simp at this; omega
            subst hj2
            simp at hz
            subst hz
            have := HPK.out
            rw [hx]
            simp only
            omega
        have HA5 : Hid (W5.cell? ⟨Bx, 0, none⟩ = some (.slice (some ⟨b, o, none⟩) l.length ca)) := hk5.cell hA
        have hb5 : Below n₀ w W5 := hbl.trans hk5.1
        have hs5 : n₀ ≤ W5.heap.size := Nat.le_trans hsz hk5.1.size
        have HJ5 : Hid (J (pre ++ [x]) W5) := hJ5
        clear hJ5 hk5
        gi_wp2
        go_roundw
        case rel => exact ⟨k, pre ++ [x], by go_num, by have := HPK.out; simp; omega, HO5, HJ5, HA5, hb5, hs5⟩
        case measure => simp [intOf]
      · gi_wp2
        refine bodyPost_ret (results_none rfl _ _ _) rfl ?_
        exact ⟨⟨_, rfl⟩, .inr ⟨pre ++ [x], trivial, hJx5⟩⟩

theorem backward_stops (n : Nat) (hn : 1 ≤ n) (Bx n₀ : Nat) (v : Value) (l : List Col) (w : World) (hn₀ : n₀ ≤ w.heap.size) (hBx : Bx < w.heap.size) (ha : w.cell? ⟨Bx, 0, none⟩ = some v) (hp : Cols w n₀ v l) :
    SeqStopsK Fence.wide n Tryd.prog 56 #[.pointer (some ⟨Bx, 0, none⟩)] (encIC (l := l)) (KpB n₀ Bx) Bwd (fun _ => True) l.length w :=
  fun y J Jx W hW _ _ hY h0 => backward1_in n hn y Bx n₀ v l w J Jx W (hW.mono hn₀) (Nat.le_trans hn₀ hW.size) hY ((hW.cell (p := ⟨Bx, 0, none⟩) hBx).trans ha) hp h0

theorem backward_in (n : Nat) (aa : Option Addr) (na ca : Nat) (w : World) :
    CallsIn Fence.wide n Tryd.prog 44 #[.slice aa na ca] w fun e w' => e = .returned (.func (.func 56) #[] #[.pointer (some ⟨w.heap.size, 0, none⟩)]) ∧ w' = w.alloc (.cells #[.slice aa na ca] 22) := by
  refine callsIn_wide.2 ?_
  go_enter Tryd.func44, Tryd.ntmps44
  go_wp2
  go_ret
  exact ⟨rfl, rfl⟩
end Go.Proofs.YtkpjjiomfgkobaaDoor
