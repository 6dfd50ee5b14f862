import Derived.Test.YtfcbkcoagoncoaaQf24
import Derived.Test.YtfcbkcoagoncoaaQf02
import Derived.Test.YtfcbkcoagoncoaaQf25
import Derived.Test.YtfcbkcoagoncoaaQf23
import Derived.Deep.RegionHeld3
namespace Go.Proofs.Ytfcbkcoagoncoaa
open Go.RowKit Go.Proofs.Ytfcbkcoagoncoaa.Ds

/-- the reference's power, up to a limit -/
def lim (x : Int) : Int := if x ≤ 1073741824 then x else 1073741825
theorem rpow_any (x : Int) (n : Nat) (hn : n ≤ 4096) (hx : 1 ≤ x) (h : x ≤ 1073741824) (r : Int) (hr : lim (x ^ n) = r) (w : World) :
    Calls Try.prog 38 #[.int .i64 x, .int .i64 (n : Int)] w fun e w' => e = .returned (.int .i64 r) ∧ w' = w := by
  have HR : Hid (lim (x ^ n) = r) := hr
  clear hr
  go_enter Try.func38, Try.ntmps38
  go_wp2
  go_loop [5, 6] (fun a c => ∃ i : Nat, i ≤ n ∧ a = .int .i64 (x ^ i) ∧ c = .int .i64 (i : Int) ∧ x ^ i ≤ 1152921504606846976) (fun _ c => n - (intOf c).toNat)
  case atStart => exact ⟨0, Nat.zero_le _, by simp, rfl, by simp⟩
  case round =>
    obtain ⟨i, hi, rfl, rfl, hle⟩ := hrel
    obtain ⟨P, hP⟩ : ∃ P, x ^ i = P := ⟨_, rfl⟩
    have hP0 : 1 ≤ P := by rw [← hP]; exact pow_pos' hx i
    rw [hP] at hle
    by_cases c2 : 1073741824 < P
    · have hr : r = 1073741825 := by
        rw [← HR.out, lim, if_neg]
        have := pow_mono hx hi
        omega
      subst hr
      rw [hP]
      clear HR hP
      by_cases c : i < n
      · go_wp2
        go_ret
        exact ⟨rfl, rfl⟩
      · have : i = n := by omega
        subst this
        go_wp2
        go_ret
        exact ⟨rfl, rfl⟩
    · by_cases c : i < n
      · have HE : Hid (x ^ (i + 1) = P * x) := by show _ = _; rw [Int.pow_succ, hP]
        have b0 : 0 ≤ P * x := Int.mul_nonneg (by omega) (by omega)
        have b1 : P * x ≤ 1073741824 * 1073741824 := Int.mul_le_mul (by omega) h (by omega) (by omega)
        rw [hP]
        clear hP
        go_wp2
        go_round
        case rel => exact ⟨i + 1, c, by rw [HE.out], by go_num, by rw [HE.out]; omega⟩
        case measure => simp [intOf]; omega
      · have : i = n := by omega
        subst this
        have hr : r = P := by
          rw [← HR.out, lim, if_pos] <;> omega
        subst hr
        rw [hP]
        clear HR hP
        go_wp2
        go_ret
        exact ⟨rfl, rfl⟩

/-! ### a loss -/
theorem noLoss_any (u d er : Int) (h : lossE u d = er) (w : World) :
    Calls Try.prog 35 #[rv u d] w fun e w' => e = .returned (.int .i64 er) ∧ Below w.heap.size w w' := by
  obtain ⟨b, hb⟩ : ∃ b, Rt.rightB u d = b := ⟨_, rfl⟩
  rw [lossE, hb] at h
  have HB := ba w (.cells #[.int .i64 u, .int .i64 d] 23)
  have kc := right_any u d b hb (w.alloc (.cells #[.int .i64 u, .int .i64 d] 23))
  clear hb
  cases b with
  | false =>
    simp at h; subst h
    go_enter Try.func35, Try.ntmps35
    go_wp2_with fail
    refine kc.mono ?_
    rintro e w1 ⟨rfl, hb1⟩
    have G1 := bt HB hb1
    go_wp2
    go_ret
    exact ⟨rfl, G1⟩
  | true =>
    simp at h
    by_cases c : u < d
    · rw [if_pos c] at h
      subst h
      go_enter Try.func35, Try.ntmps35
      go_wp2_with fail
      refine kc.mono ?_
      rintro e w1 ⟨rfl, hb1⟩
      have G1 := bt HB hb1
      obtain ⟨hc1, hf1⟩ := bcell hb1
      go_wp2
      go_ret
      exact ⟨rfl, G1⟩
    · rw [if_neg c] at h
      subst h
      go_enter Try.func35, Try.ntmps35
      go_wp2_with fail
      refine kc.mono ?_
      rintro e w1 ⟨rfl, hb1⟩
      have G1 := bt HB hb1
      obtain ⟨hc1, hf1⟩ := bcell hb1
      go_wp2
      go_ret
      exact ⟨rfl, G1⟩
end Go.Proofs.Ytfcbkcoagoncoaa

namespace Go.Proofs.Ytfcbkcoagoncoaa
open Go.RowKit Go.Proofs.Ytfcbkcoagoncoaa.Ds

/-- the reference's: what is wrong with a loss -/
theorem rloss_any (u d er : Int) (h : lossE u d = er) (w : World) :
    Calls Try.prog 52 #[rv u d] w fun e w' => e = .returned (.int .i64 er) ∧ Below w.heap.size w w' := by
  obtain ⟨b, hb⟩ : ∃ b, Rt.rightB u d = b := ⟨_, rfl⟩
  rw [lossE, hb] at h
  have HB := ba w (.cells #[.int .i64 u, .int .i64 d] 23)
  have kc := refRight_any u d b hb (w.alloc (.cells #[.int .i64 u, .int .i64 d] 23))
  clear hb
  cases b with
  | false =>
    simp at h; subst h
    go_enter Try.func52, Try.ntmps52
    go_wp2_with fail
    refine kc.mono ?_
    rintro e w1 ⟨rfl, hb1⟩
    have G1 := bt HB hb1
    go_wp2
    go_ret
    exact ⟨rfl, G1⟩
  | true =>
    simp at h
    by_cases c : u < d
    · rw [if_pos c] at h
      subst h
      go_enter Try.func52, Try.ntmps52
      go_wp2_with fail
      refine kc.mono ?_
      rintro e w1 ⟨rfl, hb1⟩
      have G1 := bt HB hb1
      obtain ⟨hc1, hf1⟩ := bcell hb1
      go_wp2
      go_ret
      exact ⟨rfl, G1⟩
    · rw [if_neg c] at h
      subst h
      go_enter Try.func52, Try.ntmps52
      go_wp2_with fail
      refine kc.mono ?_
      rintro e w1 ⟨rfl, hb1⟩
      have G1 := bt HB hb1
      obtain ⟨hc1, hf1⟩ := bcell hb1
      go_wp2
      go_ret
      exact ⟨rfl, G1⟩

end Go.Proofs.Ytfcbkcoagoncoaa

namespace Go.Proofs.Ytfcbkcoagoncoaa
open Go.RowKit Go.Proofs.Ytfcbkcoagoncoaa.Ds

/-- one number of one's own -/
theorem ints_one (W : World) (z : Int) (nb : Nat) (hn : nb ≠ W.heap.size) : Ints (W.alloc (.cells #[.int .i64 z] 3)) (W.heap.size + 1) nb (.slice (some ⟨W.heap.size, 0, none⟩) 1 1) [z] := by
  refine ⟨_, 1, rfl, Nat.le_refl _, by simp, fun _ => ⟨W.heap.size, 0, rfl, by omega, fun e => hn e.symm, fun i x hi => ?_⟩⟩
  match i, hi with
  | 0, hi => simp at hi; subst hi; simp [go_sem]

theorem own_or3 {v : Value} {n : Nat} (h : ∀ g, v.ownBlock = some g → g < n) (hn : 0 < n) : ∃ k, k < n ∧ ∀ g, v.ownBlock = some g → k = g := by
  cases e : v.ownBlock with
  | none => exact ⟨0, hn, fun g e => by cases e⟩
  | some g => exact ⟨g, h g e, fun g' e => by simpa using e⟩

end Go.Proofs.Ytfcbkcoagoncoaa

namespace Go.Proofs.Ytfcbkcoagoncoaa
open Go.RowKit Go.Proofs.Ytfcbkcoagoncoaa.Ds

/-- what a distribution is that is told -/
def DistP (w : World) (l : List Pt) (er : Int) (e : Ending) (w' : World) : Prop :=
  ∃ v' us, e = .returned (.tuple #[v', .int .i64 er]) ∧ rd us = l ∧ OwnN w' w.heap.size v' us ∧ Below w.heap.size w w' ∧ Frs w.heap.size us
theorem DistP.err {w w' : World} {er : Int} (hb : Below w.heap.size w w') : DistP w [] er (.returned (.tuple #[.slice none 0 0, .int .i64 er])) w' :=
  ⟨_, [], rfl, rfl, .inl ⟨rfl, rfl⟩, hb, Frs.nil _⟩

end Go.Proofs.Ytfcbkcoagoncoaa

namespace Go.Proofs.Ytfcbkcoagoncoaa
open Go.RowKit Go.Proofs.Ytfcbkcoagoncoaa.Ds

/-- a fraction in a cell of one's own -/
def Fc (b : Nat) (n m : Int) (W : World) : Prop :=
  W.cell? ⟨b, 0, none⟩ = some (.int .i64 n) ∧ W.cell? ⟨b, 1, none⟩ = some (.int .i64 m) ∧ W.frozen? ⟨b, 0, none⟩ = false ∧ W.frozen? ⟨b, 1, none⟩ = false
theorem fc_new (w : World) (n m : Int) : Fc w.heap.size n m (w.alloc (.cells #[.int .i64 n, .int .i64 m] 23)) := by
  refine ⟨?_, ?_, ?_, ?_⟩ <;> simp [go_sem]
theorem Fc.at {b : Nat} {n m : Int} {W W' : World} (h : Fc b n m W) (hb : Below W.heap.size W W') (hl : b < W.heap.size) : Fc b n m W' := by
  obtain ⟨h1, h2, h3, h4⟩ := h
  obtain ⟨hc, hf⟩ := bcell hb
  exact ⟨(hc _ 0 hl).trans h1, (hc _ 1 hl).trans h2, (hf _ 0 hl).trans h3, (hf _ 1 hl).trans h4⟩
theorem Fc.set {b : Nat} {n m : Int} {W : World} (h : Fc b n m W) (n' m' : Int) : Fc b n' m' ((W.setCell ⟨b, 0, none⟩ (.int .i64 n')).setCell ⟨b, 1, none⟩ (.int .i64 m')) := by
  obtain ⟨h1, h2, h3, h4⟩ := h
  refine ⟨(sc_other (by simp)).trans (sc_same h1), sc_same (u := .int .i64 m) ((sc_other (by simp)).trans h2), ?_, ?_⟩
  · rw [sc_frozen, sc_frozen]; exact h3
  · rw [sc_frozen, sc_frozen]; exact h4
end Go.Proofs.Ytfcbkcoagoncoaa
