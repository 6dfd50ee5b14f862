import Derived.Test.YthmkbkombjhaeaaQk05
import Derived.Test.YthmkbkombjhaeaaQk13
import Derived.RangeFuncNested
import Derived.RangeFuncBound
import Derived.RangeFuncCalls
import Derived.RangeFuncLeaves
import Derived.Shelf.Abstract
import Derived.Shelf.RegionOpen
import Derived.WalkKit
import Derived.OwnWalkIn
import Derived.TacticsInMore
import Derived.LoopNIn
import Derived.LoopIn
namespace Go.Proofs.Ythmkbkombjhaeaa
open Go.RowKit

/-- The value of what is told. -/
abbrev rv (n m : Int) : Value := .agg #[.int .i64 n, .int .i64 m]

set_option maxHeartbeats 400000 in
theorem rmake_any (u d n m e : Int) (hu : u ≤ 9223372036854775807) (hd : d ≤ 9223372036854775807) (h : Rt.mkT u d = (n, m, e)) (w : World) :
    Calls Try.prog 59 #[.int .i64 u, .int .i64 d] w fun x w' => x = .returned (.tuple #[rv n m, .int .i64 e]) ∧ Below w.heap.size w w' := by
  have H : Hid (Rt.mkT u d = (n, m, e)) := h
  clear h
  by_cases c1 : u < 0
  · have hr : (0, 0, 3) = (n, m, e) := by rw [← H.out]; unfold Rt.mkT; rw [if_pos (.inl c1)]
    simp only [Prod.mk.injEq] at hr
    obtain ⟨rfl, rfl, rfl⟩ := hr
    go_enter Try.func59, Try.ntmps59
    go_wp2
    exact bodyPost_ret (v := .tuple #[rv 0 0, .int .i64 3]) (by simp [results, Try.results59, go_sem]) rfl ⟨rfl, ba _ _⟩
  by_cases c2 : d < 1
  · have hr : (0, 0, 3) = (n, m, e) := by rw [← H.out]; unfold Rt.mkT; rw [if_pos (.inr c2)]
    simp only [Prod.mk.injEq] at hr
    obtain ⟨rfl, rfl, rfl⟩ := hr
    go_enter Try.func59, Try.ntmps59
    go_wp2
    exact bodyPost_ret (v := .tuple #[rv 0 0, .int .i64 3]) (by simp [results, Try.results59, go_sem]) rfl ⟨rfl, ba _ _⟩
  have hm := Rt.mkT_of u d n m e (by omega) (by omega) H.out
  clear H
  obtain ⟨x, rfl⟩ := Int.eq_ofNat_of_zero_le (show 0 ≤ u by omega)
  obtain ⟨y, rfl⟩ := Int.eq_ofNat_of_zero_le (show 0 ≤ d by omega)
  rw [show Int.gcd (x : Int) (y : Int) = Nat.gcd x y from rfl] at hm
  have hg1 : 1 ≤ Nat.gcd x y := Nat.gcd_pos_of_pos_right _ (by omega)
  have hg2 : Nat.gcd x y ≤ y := Nat.gcd_le_right _ (by omega)
  have q1 : 0 ≤ (x : Int) / (Nat.gcd x y : Nat) := Int.ediv_nonneg (by omega) (by omega)
  have q2 : 0 ≤ (y : Int) / (Nat.gcd x y : Nat) := Int.ediv_nonneg (by omega) (by omega)
  have q3 : (x : Int) / (Nat.gcd x y : Nat) ≤ 9223372036854775807 := Int.le_trans (Int.ediv_le_self _ (by omega)) hu
  have q4 : (y : Int) / (Nat.gcd x y : Nat) ≤ 9223372036854775807 := Int.le_trans (Int.ediv_le_self _ (by omega)) hd
  rcases hm with ⟨hc, rfl, rfl, rfl⟩ | ⟨hc1, hc2, rfl, rfl, rfl⟩
  · have hc' : 1073741824 < (x : Int) / (Nat.gcd x y : Nat) ∨ ((x : Int) / (Nat.gcd x y : Nat) ≤ 1073741824 ∧ 1073741824 < (y : Int) / (Nat.gcd x y : Nat)) := by omega
    clear hc
    rcases hc' with hc1 | ⟨hc1, hc2⟩
    all_goals
      go_enter Try.func59, Try.ntmps59
      go_wp2_with (go_at_call 51; refine (divisor_any _ _ (by omega) (by omega) _).mono ?_; rintro e w' ⟨rfl, hbl⟩)
      obtain ⟨hcell, hfroz⟩ := bcell hbl
      generalize Nat.gcd x y = g at *
      have hz : w.heap.size < w'.heap.size := by have := hbl.size; simp at this; omega
      go_region
      go_wp2
      exact bodyPost_ret (v := .tuple #[rv 0 0, .int .i64 4]) (by simp [results, Try.results59, go_sem, hcell, hz]) rfl ⟨rfl, (bal (bs (bs (bt (ba _ _) hbl) (Nat.le_refl _) _) (Nat.le_refl _) _) _).drew⟩
  · go_enter Try.func59, Try.ntmps59
    go_wp2_with (go_at_call 51; refine (divisor_any _ _ (by omega) (by omega) _).mono ?_; rintro e w' ⟨rfl, hbl⟩)
    obtain ⟨hcell, hfroz⟩ := bcell hbl
    have hz : w.heap.size < w'.heap.size := by have := hbl.size; simp at this; omega
    go_region
    go_wp2
    exact bodyPost_ret (v := .tuple #[rv (x / (Nat.gcd x y : Nat)) (y / (Nat.gcd x y : Nat)), .int .i64 0]) (by simp [results, Try.results59, go_sem, hcell, hz]) rfl ⟨rfl, (bal (bs (bs (bt (ba _ _) hbl) (Nat.le_refl _) _) (Nat.le_refl _) _) _).drew⟩
end Go.Proofs.Ythmkbkombjhaeaa

namespace Go.Proofs.Ythmkbkombjhaeaa
open Go.RowKit Go.Proofs.Ythmkbkombjhaeaa.Ds

/-- below i all are less than y, from j on none -/
def Cutp (l : List Pt) (y : List Int) (i j : Nat) : Prop := (∀ q p, q < i → l[q]? = some p → ltL p.1 y) ∧ (∀ q p, j ≤ q → l[q]? = some p → ¬ ltL p.1 y)

theorem rise_get {l : List Pt} (h : Rise l) {i j : Nat} {p q : Pt} (hij : i < j) (hi : l[i]? = some p) (hj : l[j]? = some q) : ltL p.1 q.1 := by
  obtain ⟨h1, rfl⟩ := List.getElem?_eq_some_iff.1 hi
  obtain ⟨h2, rfl⟩ := List.getElem?_eq_some_iff.1 hj
  exact List.pairwise_iff_getElem.1 h i j h1 h2 hij

theorem Cutp.up {l : List Pt} {y : List Int} {i j h : Nat} {p : Pt} (c : Cutp l y i j) (hr : Rise l) (hp : l[h]? = some p) (hlt : ltL p.1 y) : Cutp l y (h + 1) j := by
  refine ⟨fun q r hq hr2 => ?_, c.2⟩
  by_cases hqh : q = h
  · subst hqh; rw [hp] at hr2; simp at hr2; subst hr2; exact hlt
  · exact ltL_trans (rise_get hr (by omega) hr2 hp) hlt

theorem Cutp.down {l : List Pt} {y : List Int} {i j h : Nat} {p : Pt} (c : Cutp l y i j) (hr : Rise l) (hp : l[h]? = some p) (hge : ¬ ltL p.1 y) : Cutp l y i h := by
  refine ⟨c.1, fun q r hq hr2 hlt => ?_⟩
  by_cases hqh : q = h
  · subst hqh; rw [hp] at hr2; simp at hr2; subst hr2; exact hge hlt
  · exact hge (ltL_trans (rise_get hr (by omega) hp hr2) hlt)

/-- what stands at i, or none -/
theorem Cutp.none {l : List Pt} {y : List Int} {i : Nat} (c : Cutp l y i i) (hr : Rise l) (h : ∀ p, l[i]? = some p → p.1 ≠ y) : ∀ p ∈ l, p.1 ≠ y := by
  intro p hp he
  obtain ⟨q, hq, rfl⟩ := List.mem_iff_getElem.1 hp
  have hq2 : l[q]? = some l[q] := List.getElem?_eq_getElem hq
  rcases Nat.lt_trichotomy q i with h1 | h1 | h1
  · have := c.1 q _ h1 hq2; rw [he] at this; exact ltL_irrefl _ this
  · subst h1; exact h _ hq2 he
  · obtain ⟨r, hr2⟩ := get_lt (l := l) (i := i) (by omega)
    have h2 := rise_get hr h1 hr2 hq2
    rw [he] at h2
    exact c.2 i r (Nat.le_refl _) hr2 h2

end Go.Proofs.Ythmkbkombjhaeaa

namespace Go.Proofs.Ythmkbkombjhaeaa
open Go.RowKit Go.Shelf Go.Proofs.Ythmkbkombjhaeaa.Ds

/-- whose first outcome comes first -/
def sideT : List Tr → List Tr → Int
  | [], _ => 1
  | _ :: _, [] => -1
  | a :: _, b :: _ => cmpT a.2.1 b.2.1

theorem Parts.nil_len {w : World} {B : Nat} {a : Option Addr} {c : Nat} {ts : List Tr} (h : Parts w B (.slice a 0 c) ts) : ts = [] := by
  obtain ⟨_, _, hv, _⟩ := h
  simp only [Value.slice.injEq] at hv
  exact List.length_eq_zero_iff.1 hv.2.1.symm

theorem Parts.len {w : World} {B : Nat} {a : Option Addr} {n c : Nat} {ts : List Tr} (h : Parts w B (.slice a n c) ts) : n = ts.length := by
  obtain ⟨_, _, hv, _⟩ := h
  simp only [Value.slice.injEq] at hv
  exact hv.2.1

set_option maxHeartbeats 1000000 in
theorem first_any (B : Nat) (u v : Value) (ts us : List Tr) (w : World) (hB : B ≤ w.heap.size) (hp : Parts w B u ts) (hq : Parts w B v us) (r : Int) (hr : sideT ts us = r) :
    Calls Try.prog 70 #[u, v] w fun e w' => e = .returned (.int .i64 r) ∧ Below w.heap.size w w' := by
  have HP : Hid (Parts w B u ts) := hp
  have HQ : Hid (Parts w B v us) := hq
  obtain ⟨a, c, rfl, hc, hl, _⟩ := hp
  obtain ⟨a2, c2, rfl, hc2, hl2, _⟩ := hq
  cases ts with
  | nil =>
    simp only [sideT] at hr
    subst hr
    go_enter Try.func70, Try.ntmps70
    go_wp2
    go_ret
    exact ⟨rfl, Below.refl _ _⟩
  | cons t ts =>
    have z0 : (((t :: ts).length : Int) == 0) = false := by simp; omega
    cases us with
    | nil =>
      simp only [sideT] at hr
      subst hr
      go_enter Try.func70, Try.ntmps70
      go_wp2
      go_ret
      exact ⟨rfl, Below.refl _ _⟩
    | cons s us =>
      have z1 : (((s :: us).length : Int) == 0) = false := by simp; omega
      obtain ⟨b, o, sa, sc, xs, k, rfl, hb, hs, c1, c2', hI⟩ := HP.out.get hB (Below.refl _ w) (i := 0) (by simp)
      obtain ⟨b2, o2, sa2, sc2, xs2, k2, rfl, hb2, hs2, d1, d2, hI2⟩ := HQ.out.get hB (Below.refl _ w) (i := 0) (by simp)
      simp at hs hs2
      subst hs hs2
      have HI : Hid (Ints w B B (.slice sa xs.length sc) xs) := hI
      have HI2 : Hid (Ints w B B (.slice sa2 xs2.length sc2) xs2) := hI2
      have HR : Hid (cmpT xs xs2 = r) := hr
      simp only [Nat.zero_mul, Nat.add_zero] at c1 c2' d1 d2
      have y0 : (0 : Int) < (((.slice sa xs.length sc, xs, k) :: ts : List Tr).length : Int) := by simp <;> omega
      have y1 : (0 : Int) < (((.slice sa2 xs2.length sc2, xs2, k2) :: us : List Tr).length : Int) := by simp <;> omega
      obtain ⟨n1, hn1⟩ : ∃ n, ((.slice sa xs.length sc, xs, k) :: ts : List Tr).length = n := ⟨_, rfl⟩
      obtain ⟨n2, hn2⟩ : ∃ n, ((.slice sa2 xs2.length sc2, xs2, k2) :: us : List Tr).length = n := ⟨_, rfl⟩
      rw [hn1] at z0 y0 ⊢
      rw [hn2] at z1 y1 ⊢
      have x0 : 0 < n1 := by omega
      have x1 : 0 < n2 := by omega
      clear hI hI2 hr HP HQ hc hl hc2 hl2 hn1 hn2
      go_enter Try.func70, Try.ntmps70
      go_wp2_with fail
      go_region_held3 (fun w' => Below w.heap.size w w' ∧ w'.cell? ⟨b, o, none⟩ = some (.slice sa xs.length sc) ∧ w'.cell? ⟨b, o + 1, none⟩ = some (.int .i64 k) ∧ w'.cell? ⟨b2, o2, none⟩ = some (.slice sa2 xs2.length sc2) ∧ w'.cell? ⟨b2, o2 + 1, none⟩ = some (.int .i64 k2))
        ((go_split_ands; refine ⟨?_, ?_, ?_, ?_, ?_⟩ <;> first | (simp [go_sem, *]; done) | (exact (Below.refl _ _).drew) | (exact bt (Below.refl _ _).drew hb1)))
        ((go_at_call 76; refine (order_b B B B _ _ _ _ xs xs2 _ ?_ ?_ ?_ r HR.out).mono ?_; (show B ≤ w.heap.size; omega); (exact HI.out.keep (Below.refl _ _).drew); (exact HI2.out.keep (Below.refl _ _).drew); rintro x1 w1 ⟨rfl, hb1⟩; obtain ⟨hc1, hf1⟩ := bcell hb1; have e1 : w1.cell? ⟨b, o, none⟩ = some (.slice sa xs.length sc) := (hc1 _ _ hb).trans c1; have e2 : w1.cell? ⟨b, o + 1, none⟩ = some (.int .i64 k) := (hc1 _ _ hb).trans c2'; have e3 : w1.cell? ⟨b2, o2, none⟩ = some (.slice sa2 xs2.length sc2) := (hc1 _ _ hb2).trans d1; have e4 : w1.cell? ⟨b2, o2 + 1, none⟩ = some (.int .i64 k2) := (hc1 _ _ hb2).trans d2; clear hc1 hf1))
      rename_i hHeld
      go_wp2
      go_ret
      exact ⟨rfl, hHeld.1⟩

/-- all that two may be, in order -/
def mrg : List Tr → List Tr → List (Tr × Tr)
  | [], [] => []
  | [], b :: bs => (no, b) :: mrg [] bs
  | a :: az, [] => (a, no) :: mrg az []
  | a :: az, b :: bs => if cmpT a.2.1 b.2.1 < 0 then (a, no) :: mrg az (b :: bs) else if 0 < cmpT a.2.1 b.2.1 then (no, b) :: mrg (a :: az) bs else (a, b) :: mrg az bs
termination_by az bs => az.length + bs.length

theorem Parts.tail {w : World} {B : Nat} {b o n c : Nat} {t : Tr} {ts : List Tr} (h : Parts w B (.slice (some ⟨b, o, none⟩) n c) (t :: ts)) (A : Option Addr) (hA : 1 < c → A = some ⟨b, o + 2, none⟩) : Parts w B (.slice A ts.length (c - 1)) ts := by
  obtain ⟨a', c', hv, hc, hl, hi, hx⟩ := h
  simp only [Value.slice.injEq] at hv
  obtain ⟨rfl, rfl, rfl⟩ := hv
  simp only [List.length_cons] at hc hl
  refine ⟨A, c - 1, rfl, by omega, by omega, fun u hu => hi u (by simp [hu]), fun hne => ?_⟩
  have hpos : 0 < ts.length := List.length_pos_iff.2 hne
  obtain ⟨b', o', he, hb, hcell⟩ := hx (by simp)
  simp only [Option.some.injEq, Addr.mk.injEq, and_true] at he
  obtain ⟨rfl, rfl⟩ := he
  refine ⟨b, o + 2, hA (by omega), hb, fun i u hu => ?_⟩
  have := hcell (i + 1) u (by simpa using hu)
  rw [show o + 2 + i * 2 = o + (i + 1) * 2 by omega]
  exact this
end Go.Proofs.Ythmkbkombjhaeaa
