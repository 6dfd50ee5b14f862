import Derived.Test.YtjembpcpefgdpaaDoorQc22
import Derived.Test.YtjembpcpefgdpaaDoorQc25
import Derived.Deep.RegionHeld3
namespace Go.Proofs.YtjembpcpefgdpaaDoor
open Go.RowKit Go.Proofs.YtjembpcpefgdpaaDoor.Ds

/-! ### the table that the library lays -/
theorem tab_lt {w : World} {g : Nat} (h : TabAt g Lib.deBruijn64tab w) : g < w.heap.size := by
  have h0 := h 0 (by decide)
  rcases Nat.lt_or_ge g w.heap.size with h' | h'
  · exact h'
  · simp [World.cell?, Array.getElem?_eq_none h'] at h0
theorem tab_gb {w w' : World} {g : Nat} {r : Option Nat} (h : TabAt g Lib.deBruijn64tab w) (hg : w.grownBy w' r) (hne : some g ≠ r) : TabAt g Lib.deBruijn64tab w' :=
  fun j hj => (World.cell?_of_block (a := ⟨g, j, none⟩) (hg.block g (tab_lt h) hne)).trans (h j hj)
theorem gb_trans {a b c : World} {r : Option Nat} (h1 : a.grownBy b r) (h2 : b.grownBy c r) : a.grownBy c r :=
  ⟨h2.os.trans h1.os, h2.tape.trans h1.tape, h2.output.trans h1.output, Nat.le_trans h1.size h2.size, fun k hk hne => (h2.block k (Nat.lt_of_lt_of_le hk h1.size) hne).trans (h1.block k hk hne)⟩
/-- what is new is not asked for -/
theorem gb_new {a b c : World} {g : Nat} (h1 : a.grownBy b none) (hg : a.heap.size ≤ g) (h2 : b.grownBy c (some g)) : a.grownBy c none :=
  ⟨h2.os.trans h1.os, h2.tape.trans h1.tape, h2.output.trans h1.output, Nat.le_trans h1.size h2.size, fun k hk hne => (h2.block k (Nat.lt_of_lt_of_le hk h1.size) (by simp; omega)).trans (h1.block k hk hne)⟩
theorem gb_some {a b : World} {r : Option Nat} (h : a.grownBy b none) : a.grownBy b r := ⟨h.os, h.tape, h.output, h.size, fun k hk _ => h.block k hk (by simp)⟩
theorem DosN.beside {w w' : World} {h r : Nat} {v : Value} {zs : List Dz} (D : DosN w h v zs) (hg : w.grownBy w' (some r)) (hr : r < h) : DosN w' h v zs := by
  rcases D with D | ⟨g, cap, lo, h1, h2, h3, h4, h5, h6⟩
  · exact .inl D
  · exact .inr ⟨g, cap, lo, h1, h2, h3, h4.beside hg (by omega) (by omega), h5, h6⟩
theorem DosN.mono {w : World} {h h' : Nat} {v : Value} {zs : List Dz} (D : DosN w h v zs) (hl : h' ≤ h) : DosN w h' v zs := by
  rcases D with D | ⟨g, cap, lo, h1, h2, h3, h4, h5, h6⟩
  · exact .inl D
  · exact .inr ⟨g, cap, lo, h1, h2, h3, h4, by omega, by omega⟩
theorem SevB.gb {w w' : World} {R : Nat} {a b c d e f g : Value} {r : Option Nat} (h : SevB w R a b c d e f g) (hg : w.grownBy w' r) (hne : some R ≠ r) : SevB w' R a b c d e f g := h.same (hg.block R h.lt hne)
theorem RowI.gb {w w' : World} {g : Nat} {xs : List Int} {r : Option Nat} (h : RowI w g xs) (hg : w.grownBy w' r) (hne : some g ≠ r) : RowI w' g xs :=
  ⟨fun i x hi => (World.cell?_of_block (a := ⟨g, i, none⟩) (hg.block g h.lt hne)).trans (h.cells i x hi), fun i hi => (World.frozen?_of_block (a := ⟨g, i, none⟩) (hg.block g h.lt hne)).trans (h.thaw i hi), Nat.lt_of_lt_of_le h.lt hg.size⟩

/-! ### numbers to which one is added, the first ones only -/
def addI (z : Int) (i : Nat) (xs : List Int) : List Int := (xs.take i).map (· + z) ++ xs.drop i
theorem addI_zero (z : Int) (xs : List Int) : addI z 0 xs = xs := by simp [addI]
theorem addI_len (z : Int) (i : Nat) (xs : List Int) : (addI z i xs).length = xs.length := by simp [addI]; omega
theorem addI_all (z : Int) (i : Nat) (xs : List Int) (h : xs.length ≤ i) : addI z i xs = xs.map (· + z) := by simp [addI, List.take_of_length_le h, List.drop_of_length_le h]
theorem addI_get (z : Int) (i : Nat) (xs : List Int) {x : Int} (h : xs[i]? = some x) : (addI z i xs)[i]? = some x := by
  have hi : i < xs.length := (List.getElem?_eq_some_iff.1 h).1
  rw [addI, List.getElem?_append_right (by simp; omega)]
  simp [Nat.min_eq_left (Nat.le_of_lt hi), h]
theorem addI_set (z : Int) (i : Nat) (xs : List Int) {x : Int} (h : xs[i]? = some x) : (addI z i xs).set i (x + z) = addI z (i + 1) xs := by
  have hi : i < xs.length := (List.getElem?_eq_some_iff.1 h).1
  have hl : ((xs.take i).map (· + z)).length = i := by simp; omega
  unfold addI
  rw [List.set_append_right _ _ (by omega), hl, Nat.sub_self, List.take_add_one, h]
  have hd : xs.drop i = x :: xs.drop (i + 1) := by
    rw [List.drop_eq_getElem_cons hi]
    congr 1
    exact (List.getElem?_eq_some_iff.1 h).2
  rw [hd]
  simp

/-! ### Step -/
/-- what Step answers, and how the counter stands then -/
def StepP (w : World) (N R k : Nat) (u d lo hi : Int) (g0 t : Nat) (xs : List Int) (l : List (List Pt)) (er : Int) (e : Ending) (w' : World) : Prop :=
  ∃ v zs g cap, e = .returned (.tuple #[v, .int .i64 er]) ∧ rds zs = l ∧ DosN w' w.heap.size v zs ∧ w.grownBy w' (some R) ∧ Ctr w' N R k u d lo hi t g cap xs ∧ (g = g0 ∨ w.heap.size ≤ g)

set_option maxHeartbeats 1000000 in
set_option maxRecDepth 100000 in
theorem stepState_any (N R k : Nat) (u d lo hi : Int) (t g cap : Nat) (xs : List Int) (item : Int) (w : World) (C : Ctr w N R k u d lo hi t g cap xs) (hk : k ≤ 10) (ht : 2 ^ k ≤ t) :
    Calls Tryd.prog 15 #[.pointer (some ⟨R, 0, none⟩), .int .i64 item] w (StepP w N R k u d lo hi g t xs [] 9) := by
  have HC : Hid (Ctr w N R k u d lo hi t g cap xs) := C
  have kl := len_any k hk
  have c0 := C.box.c0
  have c5 := C.box.c5
  obtain ⟨q, hq⟩ : ∃ q, 2 ^ k = q := ⟨_, rfl⟩
  rw [hq] at kl ht
  have ht' : (q : Int) ≤ (t : Int) := by omega
  clear C hq
  go_enter Tryd.func15, Tryd.ntmps15
  go_wp2
  go_quiet ((go_at_call 32; refine Calls.quiet_of_same (kl _)))
  go_wp2
  go_ret2
  exact ⟨_, [], g, cap, rfl, rfl, .inl ⟨rfl, rfl⟩, gb_some (gb_none (bdr _ _)), HC.out.keep (bdr _ _), .inl rfl⟩

set_option maxHeartbeats 1000000 in
set_option maxRecDepth 100000 in
theorem stepRange_any (N R k : Nat) (u d lo hi : Int) (t g cap : Nat) (xs : List Int) (item : Int) (w : World) (C : Ctr w N R k u d lo hi t g cap xs) (hk : k ≤ 10) (ht : ¬ 2 ^ k ≤ t) (hi0 : item < 0 ∨ (¬ item < 0 ∧ 1048576 < item)) :
    Calls Tryd.prog 15 #[.pointer (some ⟨R, 0, none⟩), .int .i64 item] w (StepP w N R k u d lo hi g t xs [] 3) := by
  have HC : Hid (Ctr w N R k u d lo hi t g cap xs) := C
  have kl := len_any k hk
  have c0 := C.box.c0
  have c5 := C.box.c5
  obtain ⟨q, hq⟩ : ∃ q, 2 ^ k = q := ⟨_, rfl⟩
  rw [hq] at kl ht
  have ht' : ¬ (q : Int) ≤ (t : Int) := by omega
  clear C hq ht
  rcases hi0 with hi0 | ⟨hi0, hi1⟩
  all_goals
    go_enter Tryd.func15, Tryd.ntmps15
    go_wp2
    go_quiet ((go_at_call 32; refine Calls.quiet_of_same (kl _)))
    go_wp2
    go_ret2
    exact ⟨_, [], g, cap, rfl, rfl, .inl ⟨rfl, rfl⟩, gb_some (gb_none (bdr _ _)), HC.out.keep (bdr _ _), .inl rfl⟩
end Go.Proofs.YtjembpcpefgdpaaDoor
