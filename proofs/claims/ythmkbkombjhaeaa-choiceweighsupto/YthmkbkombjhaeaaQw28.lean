import Derived.Test.YthmkbkombjhaeaaQw04
import Derived.Deep.RegionHeld3
import Derived.Test.YthmkbkombjhaeaaQw10
import Derived.Test.YthmkbkombjhaeaaQw08
namespace Go.Proofs.Ythmkbkombjhaeaa
open Go.RowKit Go.Proofs.Ythmkbkombjhaeaa.Ds

set_option maxHeartbeats 400000 in
theorem right_any (u d : Int) (b : Bool) (hb : Rt.rightB u d = b) (w : World) :
    Calls Try.prog 43 #[rv u d] w fun e w' => e = .returned (.bool b) ∧ Below w.heap.size w w' := by
  have HB : Hid (Rt.rightB u d = b) := hb
  clear hb
  by_cases c : 0 ≤ u ∧ u ≤ 1073741824 ∧ 1 ≤ d ∧ d ≤ 1073741824
  · obtain ⟨c1, c2, c3, c4⟩ := c
    obtain ⟨x, rfl⟩ := Int.eq_ofNat_of_zero_le c1
    obtain ⟨y, rfl⟩ := Int.eq_ofNat_of_zero_le (show 0 ≤ d by omega)
    have hbb : b = (((Nat.gcd x y : Nat) : Int) == 1) := by
      rw [← HB.out]; unfold Rt.rightB; rw [Bool.eq_iff_iff]; simp [Rt.mx]; omega
    subst hbb
    clear HB
    go_enter Try.func43, Try.ntmps43
    go_wp2_with (go_at_call 51; refine (divisor_any _ _ (by omega) (by omega) _).mono ?_; rintro e w' ⟨rfl, hbl⟩)
    go_ret
    exact ⟨rfl, bt (ba _ _) hbl⟩
  · have hbb : b = false := by
      rw [← HB.out]; unfold Rt.rightB Rt.mx; exact decide_eq_false (fun h => c ⟨h.1, h.2.1, h.2.2.1, h.2.2.2.1⟩)
    subst hbb
    clear HB
    by_cases c1 : u < 0
    · clear c
      go_enter Try.func43, Try.ntmps43
      go_wp2
      go_ret
      exact ⟨rfl, ba _ _⟩
    by_cases c2 : 1073741824 < u
    · clear c
      go_enter Try.func43, Try.ntmps43
      go_wp2
      go_ret
      exact ⟨rfl, ba _ _⟩
    by_cases c3 : d < 1
    · clear c
      go_enter Try.func43, Try.ntmps43
      go_wp2
      go_ret
      exact ⟨rfl, ba _ _⟩
    · have c4 : 1073741824 < d := by omega
      clear c
      go_enter Try.func43, Try.ntmps43
      go_wp2
      go_ret
      exact ⟨rfl, ba _ _⟩

set_option maxHeartbeats 400000 in
theorem refRight_any (u d : Int) (b : Bool) (hb : Rt.rightB u d = b) (w : World) :
    Calls Try.prog 40 #[rv u d] w fun e w' => e = .returned (.bool b) ∧ Below w.heap.size w w' := by
  have HB : Hid (Rt.rightB u d = b) := hb
  clear hb
  by_cases c : 0 ≤ u ∧ u ≤ 1073741824 ∧ 1 ≤ d ∧ d ≤ 1073741824
  · obtain ⟨c1, c2, c3, c4⟩ := c
    obtain ⟨x, rfl⟩ := Int.eq_ofNat_of_zero_le c1
    obtain ⟨y, rfl⟩ := Int.eq_ofNat_of_zero_le (show 0 ≤ d by omega)
    have hbb : b = (((Nat.gcd x y : Nat) : Int) == 1) := by
      rw [← HB.out]; unfold Rt.rightB; rw [Bool.eq_iff_iff]; simp [Rt.mx]; omega
    subst hbb
    clear HB
    go_enter Try.func40, Try.ntmps40
    go_wp2_with (go_at_call 54; refine (refDivisor_any _ _ (by omega) (by omega) (by omega) _).mono ?_; rintro e w' ⟨rfl, rfl⟩)
    go_ret
    exact ⟨rfl, ba _ _⟩
  · have hbb : b = false := by
      rw [← HB.out]; unfold Rt.rightB Rt.mx; exact decide_eq_false (fun h => c ⟨h.1, h.2.1, h.2.2.1, h.2.2.2.1⟩)
    subst hbb
    clear HB
    by_cases c1 : u < 0
    · clear c
      go_enter Try.func40, Try.ntmps40
      go_wp2
      go_ret
      exact ⟨rfl, ba _ _⟩
    by_cases c3 : d < 1
    · clear c
      go_enter Try.func40, Try.ntmps40
      go_wp2
      go_ret
      exact ⟨rfl, ba _ _⟩
    by_cases c2 : 1073741824 < u
    · clear c
      go_enter Try.func40, Try.ntmps40
      go_wp2
      go_ret
      exact ⟨rfl, ba _ _⟩
    · have c4 : 1073741824 < d := by omega
      clear c
      go_enter Try.func40, Try.ntmps40
      go_wp2
      go_ret
      exact ⟨rfl, ba _ _⟩

end Go.Proofs.Ythmkbkombjhaeaa

namespace Go.Proofs.Ythmkbkombjhaeaa
open Go.RowKit Go.Proofs.Ythmkbkombjhaeaa.Ds

/-- what is wrong -/
def choE (u d : Int) (l : List Int) : Int :=
  if Rt.rightB u d = true then
    if u < d then 3 else if l.length < 1 ∨ 8 < l.length then 5
    else if l.all (fun n => decide (-1073741824 ≤ n ∧ n ≤ 1073741824)) = true then (if l.all (fun n => decide (mxI l - n ≤ 64)) = true then 0 else 3) else 3
  else 2
theorem cho_ok {u d : Int} {l : List Int} (h : choE u d l = 0) : Rt.rightB u d = true ∧ d ≤ u ∧ 1 ≤ d ∧ 1 ≤ l.length ∧ l.length ≤ 8 ∧ (∀ n ∈ l, -1073741824 ≤ n ∧ n ≤ 1073741824) ∧ ∀ n ∈ l, mxI l - n ≤ 64 := by
  unfold choE at h
  split at h
  · rename_i h1
    have hb := Rt.right_bd h1
    split at h
    · omega
    · split at h
      · omega
      · split at h
        · rename_i h4
          split at h
          · rename_i h5
            rw [List.all_eq_true] at h4 h5
            exact ⟨h1, by omega, by omega, by omega, by omega, fun n hn => of_decide_eq_true (h4 n hn), fun n hn => of_decide_eq_true (h5 n hn)⟩
          · omega
        · omega
  · omega
/-- numbers with their weights -/
def numL (n : Nat) (g : Nat → Int) : List Pt := (List.range n).map fun (i : Nat) => ([(i : Int)], g i)
/-- Weigh -/
def weighT (u d : Int) (l : List Int) : List Pt × Int :=
  if choE u d l ≠ 0 then ([], choE u d l) else if 1073741824 < Ps.sumI (wgW u d (belT l)) (List.range l.length) then ([], 4) else makeT (numL l.length (wgW u d (belT l)))
/-- Flip -/
def flipT (u d : Int) (l : List Int) : List Pt × Int :=
  if choE u d l ≠ 0 then ([], choE u d l) else if 1073741824 < (Ps.fact l.length : Int) * Ps.pI (fun j => u ^ (belT l).getD j 0) (List.range l.length) then ([], 4) else makeT (numL l.length (Ps.flW u d (belT l)))
theorem cho_bad {u d : Int} {l : List Int} (h1 : Rt.rightB u d = true) (h2 : ¬ u < d) (h3 : 1 ≤ l.length) (h4 : l.length ≤ 8) (h : l.any badB = true) : choE u d l = 3 := by
  unfold choE
  rw [if_pos h1, if_neg h2, if_neg (by omega), if_neg]
  intro ha
  rw [List.all_eq_true] at ha
  obtain ⟨n, hn, hb⟩ := List.any_eq_true.1 h
  have := of_decide_eq_true (ha n hn)
  have hb' := of_decide_eq_true hb
  omega
theorem cho_all {l : List Int} (h : l.any badB = false) : ∀ n ∈ l, -1073741824 ≤ n ∧ n ≤ 1073741824 := by
  intro n hn
  rw [List.any_eq_false] at h
  have := h n hn
  unfold badB at this
  simp at this
  omega
theorem cho_rest {u d : Int} {l : List Int} (h1 : Rt.rightB u d = true) (h2 : ¬ u < d) (h3 : 1 ≤ l.length) (h4 : l.length ≤ 8) (h : l.any badB = false) : choE u d l = if 64 < mxI (farI l) then 3 else 0 := by
  have ha := cho_all h
  have hne : l ≠ [] := by intro e; rw [e] at h3; simp at h3
  have hnf : farI l ≠ [] := by intro e; have := congrArg List.length e; rw [farI_len] at this; simp at this; exact hne this
  unfold choE
  rw [if_pos h1, if_neg h2, if_neg (by omega), if_pos (by rw [List.all_eq_true]; exact fun n hn => decide_eq_true (ha n hn))]
  have key : (l.all (fun n => decide (mxI l - n ≤ 64)) = true) ↔ ¬ 64 < mxI (farI l) := by
    rw [Int.not_lt, mxI_iff hnf, List.all_eq_true]
    constructor
    · intro h n hn
      obtain ⟨m, hm, rfl⟩ := List.mem_map.1 hn
      exact of_decide_eq_true (h m hm)
    · intro h n hn
      exact decide_eq_true (h _ (List.mem_map.2 ⟨n, hn, rfl⟩))
  by_cases c : 64 < mxI (farI l)
  · rw [if_pos c, if_neg fun h => key.1 h c]
  · rw [if_neg c, if_pos (key.2 c)]
end Go.Proofs.Ythmkbkombjhaeaa

namespace Go.Proofs.Ythmkbkombjhaeaa
open Go.RowKit Go.Proofs.Ythmkbkombjhaeaa.Ds

/-- none of those ahead of k is bad -/
def Non (xs : List Int) (k : Nat) : Prop := (xs.take k).any badB = false
theorem Non.step {xs : List Int} {k : Nat} {x : Int} (h : Non xs k) (hx : xs[k]? = some x) (hb : badB x = false) : Non xs (k + 1) := by
  unfold Non at *
  rw [List.take_add_one, hx, List.any_append, h]
  simp [hb]
theorem Non.hit {xs : List Int} {k : Nat} {x : Int} (hx : xs[k]? = some x) (hb : badB x = true) : xs.any badB = true :=
  List.any_eq_true.2 ⟨x, List.mem_of_getElem? hx, hb⟩
theorem Non.all {xs : List Int} {k : Nat} (h : Non xs k) (hk : xs.length ≤ k) : xs.any badB = false := by
  unfold Non at h
  rwa [List.take_of_length_le hk] at h

set_option maxHeartbeats 400000 in
theorem indexBad_any (B : Nat) (v : Value) (xs : List Int) (w : World) (h : Num w B v xs) (r : Bool) (hr : xs.any badB = r) :
    Calls Try.prog 60 #[v, .func (.func 45) #[] #[]] w fun e w' => ∃ k : Int, e = .returned (.int .i64 k) ∧ decide (0 ≤ k) = r ∧ k < 9223372036854775807 ∧ w' = w := by
  have HN : Hid (Num w B v xs) := h
  have HR : Hid (xs.any badB = r) := hr
  obtain ⟨a, c, rfl, hc, hl, _⟩ := h
  clear hr
  go_enter Try.func60, Try.ntmps60
  go_wp2
  go_loop [8] (fun i => ∃ k : Nat, k ≤ xs.length ∧ Hid (Non xs k) ∧ i = .int .i64 (k : Int)) (fun i => xs.length - (intOf i).toNat)
  case atStart => exact ⟨0, Nat.zero_le _, rfl, rfl⟩
  case round =>
    obtain ⟨k, hk, HK, rfl⟩ := hrel
    by_cases h1 : k < xs.length
    · obtain ⟨b, o, c', x, he, _, _, hx, hcx⟩ := HN.out.get h1
      simp only [Value.slice.injEq] at he
      obtain ⟨rfl, _, rfl⟩ := he
      obtain ⟨q, hq⟩ : ∃ q, badB x = q := ⟨_, rfl⟩
      have kc := noScore_any x q hq w
      cases q with
      | true =>
        have hr : r = true := by rw [← HR.out]; exact Non.hit hx hq
        subst hr
        clear hx hq HR HK
        go_wp2_with fail
        refine kc.mono ?_
        rintro e w1 ⟨rfl, rfl⟩
        clear kc
        go_wp2
        go_ret
        exact ⟨k, rfl, by simp, by omega, rfl⟩
      | false =>
        have HS : Hid (Non xs (k + 1)) := HK.out.step hx hq
        clear hx hq HK
        go_wp2_with fail
        refine kc.mono ?_
        rintro e w1 ⟨rfl, rfl⟩
        clear kc
        go_wp2
        go_round
        case rel => exact ⟨k + 1, h1, HS, by go_num⟩
        case measure => simp [intOf]; omega
    · have hr : r = false := by rw [← HR.out]; exact HK.out.all (by omega)
      subst hr
      clear HR HK
      go_wp2
      go_ret
      exact ⟨-1, rfl, by simp, by omega, rfl⟩
theorem containsBad_any (B : Nat) (v : Value) (xs : List Int) (w : World) (h : Num w B v xs) (r : Bool) (hr : xs.any badB = r) :
    Calls Try.prog 44 #[v, .func (.func 45) #[] #[]] w fun e w' => e = .returned (.bool r) ∧ w' = w := by
  have kc := indexBad_any B v xs w h r hr
  obtain ⟨a, c, rfl, hc, hl, _⟩ := h
  clear hr
  go_enter Try.func44, Try.ntmps44
  go_wp2_with fail
  refine kc.mono ?_
  rintro e w1 ⟨k, rfl, hk, hk2, rfl⟩
  clear kc
  subst hk
  by_cases c : 0 ≤ k
  · go_wp2
    go_ret
    exact ⟨ret_b (by simp [c]), rfl⟩
  · go_wp2
    go_ret
    exact ⟨ret_b (by simp), rfl⟩
end Go.Proofs.Ythmkbkombjhaeaa
