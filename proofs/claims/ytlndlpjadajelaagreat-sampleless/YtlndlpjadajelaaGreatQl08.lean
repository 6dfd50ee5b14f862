import Derived.Test.YtlndlpjadajelaaGreatQl07
import Derived.RangeFuncNested
import Derived.RangeFuncBound
import Derived.RangeFuncCalls
import Derived.RangeFuncLeaves
import Derived.Shelf.Abstract
import Derived.Shelf.RegionOpen
import Derived.WalkKit
import Derived.OwnWalkIn
import Derived.TacticsInMore
import Derived.LoopNIn
import Derived.LoopIn
namespace Go.Proofs.YtlndlpjadajelaaGreat
open Go.RowKit Go.Shelf Go.Proofs.YtlndlpjadajelaaGreat.Ds

/-- whose first outcome comes first -/
def sideT : List Tr → List Tr → Int
  | [], _ => 1
  | _ :: _, [] => -1
  | a :: _, b :: _ => cmpT a.2.1 b.2.1

theorem Parts.nil_len {w : World} {B : Nat} {a : Option Addr} {c : Nat} {ts : List Tr} (h : Parts w B (.slice a 0 c) ts) : ts = [] := by
  obtain ⟨_, _, hv, _⟩ := h
  simp only [Value.slice.injEq] at hv
  exact List.length_eq_zero_iff.1 hv.2.1.symm

theorem Parts.len {w : World} {B : Nat} {a : Option Addr} {n c : Nat} {ts : List Tr} (h : Parts w B (.slice a n c) ts) : n = ts.length := by
  obtain ⟨_, _, hv, _⟩ := h
  simp only [Value.slice.injEq] at hv
  exact hv.2.1

set_option maxHeartbeats 1000000 in
theorem first_any (B : Nat) (u v : Value) (ts us : List Tr) (w : World) (hB : B ≤ w.heap.size) (hp : Parts w B u ts) (hq : Parts w B v us) (r : Int) (hr : sideT ts us = r) :
    Calls Tryz.prog 88 #[u, v] w fun e w' => e = .returned (.int .i64 r) ∧ Below w.heap.size w w' := by
  have HP : Hid (Parts w B u ts) := hp
  have HQ : Hid (Parts w B v us) := hq
  obtain ⟨a, c, rfl, hc, hl, _⟩ := hp
  obtain ⟨a2, c2, rfl, hc2, hl2, _⟩ := hq
  cases ts with
  | nil =>
    simp only [sideT] at hr
    subst hr
    go_enter Tryz.func88, Tryz.ntmps88
    go_wp2
    go_ret
    exact ⟨rfl, Below.refl _ _⟩
  | cons t ts =>
    have z0 : (((t :: ts).length : Int) == 0) = false := by simp; omega
    cases us with
    | nil =>
      simp only [sideT] at hr
      subst hr
      go_enter Tryz.func88, Tryz.ntmps88
      go_wp2
      go_ret
      exact ⟨rfl, Below.refl _ _⟩
    | cons s us =>
      have z1 : (((s :: us).length : Int) == 0) = false := by simp; omega
      obtain ⟨b, o, sa, sc, xs, k, rfl, hb, hs, c1, c2', hI⟩ := HP.out.get hB (Below.refl _ w) (i := 0) (by simp)
      obtain ⟨b2, o2, sa2, sc2, xs2, k2, rfl, hb2, hs2, d1, d2, hI2⟩ := HQ.out.get hB (Below.refl _ w) (i := 0) (by simp)
      simp at hs hs2
      subst hs hs2
      have HI : Hid (Ints w B B (.slice sa xs.length sc) xs) := hI
      have HI2 : Hid (Ints w B B (.slice sa2 xs2.length sc2) xs2) := hI2
      have HR : Hid (cmpT xs xs2 = r) := hr
      simp only [Nat.zero_mul, Nat.add_zero] at c1 c2' d1 d2
      have y0 : (0 : Int) < (((.slice sa xs.length sc, xs, k) :: ts : List Tr).length : Int) := by simp <;> omega
      have y1 : (0 : Int) < (((.slice sa2 xs2.length sc2, xs2, k2) :: us : List Tr).length : Int) := by simp <;> omega
      obtain ⟨n1, hn1⟩ : ∃ n, ((.slice sa xs.length sc, xs, k) :: ts : List Tr).length = n := ⟨_, rfl⟩
      obtain ⟨n2, hn2⟩ : ∃ n, ((.slice sa2 xs2.length sc2, xs2, k2) :: us : List Tr).length = n := ⟨_, rfl⟩
      rw [hn1] at z0 y0 ⊢
      rw [hn2] at z1 y1 ⊢
      have x0 : 0 < n1 := by omega
      have x1 : 0 < n2 := by omega
      clear hI hI2 hr HP HQ hc hl hc2 hl2 hn1 hn2
      go_enter Tryz.func88, Tryz.ntmps88
      go_wp2_with fail
      go_region_held3 (fun w' => Below w.heap.size w w' ∧ w'.cell? ⟨b, o, none⟩ = some (.slice sa xs.length sc) ∧ w'.cell? ⟨b, o + 1, none⟩ = some (.int .i64 k) ∧ w'.cell? ⟨b2, o2, none⟩ = some (.slice sa2 xs2.length sc2) ∧ w'.cell? ⟨b2, o2 + 1, none⟩ = some (.int .i64 k2))
        ((go_split_ands; refine ⟨?_, ?_, ?_, ?_, ?_⟩ <;> first | (simp [go_sem, *]; done) | (exact (Below.refl _ _).drew) | (exact bt (Below.refl _ _).drew hb1)))
        ((go_at_call 150; refine (order_b B B B _ _ _ _ xs xs2 _ ?_ ?_ ?_ r HR.out).mono ?_; (show B ≤ w.heap.size; omega); (exact HI.out.keep (Below.refl _ _).drew); (exact HI2.out.keep (Below.refl _ _).drew); rintro x1 w1 ⟨rfl, hb1⟩; obtain ⟨hc1, hf1⟩ := bcell hb1; have e1 : w1.cell? ⟨b, o, none⟩ = some (.slice sa xs.length sc) := (hc1 _ _ hb).trans c1; have e2 : w1.cell? ⟨b, o + 1, none⟩ = some (.int .i64 k) := (hc1 _ _ hb).trans c2'; have e3 : w1.cell? ⟨b2, o2, none⟩ = some (.slice sa2 xs2.length sc2) := (hc1 _ _ hb2).trans d1; have e4 : w1.cell? ⟨b2, o2 + 1, none⟩ = some (.int .i64 k2) := (hc1 _ _ hb2).trans d2; clear hc1 hf1))
      rename_i hHeld
      go_wp2
      go_ret
      exact ⟨rfl, hHeld.1⟩

/-- all that two may be, in order -/
def mrg : List Tr → List Tr → List (Tr × Tr)
  | [], [] => []
  | [], b :: bs => (no, b) :: mrg [] bs
  | a :: az, [] => (a, no) :: mrg az []
  | a :: az, b :: bs => if cmpT a.2.1 b.2.1 < 0 then (a, no) :: mrg az (b :: bs) else if 0 < cmpT a.2.1 b.2.1 then (no, b) :: mrg (a :: az) bs else (a, b) :: mrg az bs
termination_by az bs => az.length + bs.length

theorem Parts.tail {w : World} {B : Nat} {b o n c : Nat} {t : Tr} {ts : List Tr} (h : Parts w B (.slice (some ⟨b, o, none⟩) n c) (t :: ts)) (A : Option Addr) (hA : 1 < c → A = some ⟨b, o + 2, none⟩) : Parts w B (.slice A ts.length (c - 1)) ts := by
  obtain ⟨a', c', hv, hc, hl, hi, hx⟩ := h
  simp only [Value.slice.injEq] at hv
  obtain ⟨rfl, rfl, rfl⟩ := hv
  simp only [List.length_cons] at hc hl
  refine ⟨A, c - 1, rfl, by omega, by omega, fun u hu => hi u (by simp [hu]), fun hne => ?_⟩
  have hpos : 0 < ts.length := List.length_pos_iff.2 hne
  obtain ⟨b', o', he, hb, hcell⟩ := hx (by simp)
  simp only [Option.some.injEq, Addr.mk.injEq, and_true] at he
  obtain ⟨rfl, rfl⟩ := he
  refine ⟨b, o + 2, hA (by omega), hb, fun i u hu => ?_⟩
  have := hcell (i + 1) u (by simpa using hu)
  rw [show o + 2 + i * 2 = o + (i + 1) * 2 by omega]
  exact this
end Go.Proofs.YtlndlpjadajelaaGreat
