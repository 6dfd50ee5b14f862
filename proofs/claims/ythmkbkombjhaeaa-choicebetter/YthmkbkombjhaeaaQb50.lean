import Derived.Test.YthmkbkombjhaeaaQb41
import Derived.Test.YthmkbkombjhaeaaQb48
import Derived.Test.YthmkbkombjhaeaaQb49
import Derived.Test.YthmkbkombjhaeaaQb04
import Derived.Deep.SlicePairs
import Derived.ProofKit
import Derived.OpenShut
import Derived.JoinedCond
import Derived.Carry
namespace Go.Proofs.Ythmkbkombjhaeaa
open Go.RowKit Go.Proofs.Ythmkbkombjhaeaa.Ds

theorem shift_any (x y : Int) (h0 : -1073741824 * y ≤ x) (h1 : x ≤ 1073741824 * y) (y0 : 1 ≤ y) (y1 : y ≤ 1073741824) (w : World) :
    Calls Try.prog 21 #[.int .i64 x, .int .i64 y] w fun e w' => e = .returned (.int .i64 (x + 1073741824 * y)) ∧ w' = w := by
  go_enter Try.func21, Try.ntmps21
  go_wp2
  go_ret
  exact ⟨rfl, rfl⟩
/-- what is chosen has a score -/
theorem made_scoT {n : Nat} {g : Nat → Int} {l : List Int} {a : List Pt} (hn : n = l.length) (hl : ∀ z ∈ l, -1073741824 ≤ z ∧ z ≤ 1073741824) (h : makeT (numL n g) = (a, 0)) :
    ∃ k x y, makeT (scP a l) = (k, 0) ∧ meaT k = (x, y) ∧ scoT a l = (x, y, 0) ∧ 1 ≤ y ∧ y ≤ 1073741824 ∧ -1073741824 * y ≤ x ∧ x ≤ 1073741824 * y := by
  obtain ⟨hd, hsb, k, hk, kd, hh, hx⟩ := made_score hn hl h
  obtain ⟨⟨x, y⟩, hxy⟩ : ∃ z, meaT k = z := ⟨_, rfl⟩
  obtain ⟨y1, _, x0, x1, y2⟩ := hx x y hxy
  refine ⟨k, x, y, hk, hxy, ?_, y1, y2, x0, x1⟩
  unfold scoT
  have e1 : scT a l = (k, 0) := by
    unfold scT
    rw [hd.own]
    simp only [if_true]
    exact hk
  rw [if_pos hsb, e1]
  simp only [if_true]
  unfold meanT
  rw [kd.own]
  simp only [if_true, hh]
  unfold meaT at hxy
  simp only [Prod.mk.injEq] at hxy
  rw [hxy.1, hxy.2]
theorem weigh_made {u d : Int} {l : List Int} {a : List Pt} (h : weighT u d l = (a, 0)) : ∃ g, makeT (numL l.length g) = (a, 0) ∧ ∀ z ∈ l, -1073741824 ≤ z ∧ z ≤ 1073741824 := by
  unfold weighT at h
  by_cases c : choE u d l = 0
  · rw [if_neg (by simpa using c)] at h
    split at h
    · simp at h
    · exact ⟨_, h, (cho_ok c).2.2.2.2.2.1⟩
  · rw [if_pos (by simpa using c)] at h; simp only [Prod.mk.injEq] at h; exact absurd h.2 c
theorem flip_made {u d : Int} {l : List Int} {a : List Pt} (h : flipT u d l = (a, 0)) : ∃ g, makeT (numL l.length g) = (a, 0) ∧ ∀ z ∈ l, -1073741824 ≤ z ∧ z ≤ 1073741824 := by
  unfold flipT at h
  by_cases c : choE u d l = 0
  · rw [if_neg (by simpa using c)] at h
    split at h
    · simp at h
    · exact ⟨_, h, (cho_ok c).2.2.2.2.2.1⟩
  · rw [if_pos (by simpa using c)] at h; simp only [Prod.mk.injEq] at h; exact absurd h.2 c

set_option maxHeartbeats 4000000 in
set_option maxRecDepth 100000 in
theorem choiceBetter_walk (B : Nat) (u d : Int) (v : Value) (l : List Int) (w : World) (hB : B ≤ w.heap.size) (hx : Num w B v l) :
    Calls Try.prog 5 #[rv u d, v] w fun e w' => e = .returned (.bool true) ∧ Below w.heap.size w w' := by
  have HL : Hid (Num w B v l) := hx
  have ka := fun W => alive_any W
  obtain ⟨⟨wk, we⟩, hwa⟩ : ∃ z, weighT u d l = z := ⟨_, rfl⟩
  obtain ⟨⟨fk, fe⟩, hfa⟩ : ∃ z, flipT u d l = z := ⟨_, rfl⟩
  have HW : Hid (weighT u d l = (wk, we)) := hwa
  have HF : Hid (flipT u d l = (fk, fe)) := hfa
  have kw := fun W h hB => weigh_any B u d v l W h hB wk we hwa
  have kf := fun W h hB => flip_any B u d v l W h hB fk fe hfa
  obtain ⟨la, lc, rfl, hlc, hll, _⟩ := hx
  clear hwa hfa
  go_enter Try.func5, Try.ntmps5
  go_wp2_with fail
  refine (ka _).mono ?_
  rintro e w1 ⟨rfl, hb1⟩
  clear ka
  have G1 := bt (ba _ _) hb1
  obtain ⟨hc1, hf1⟩ := bcell hb1
  have k0 : w1.cell? ⟨w.heap.size, 0, none⟩ = some (.int .i64 u) := by rw [hc1 _ _ (by simp)]; simp [go_sem]
  have k1 : w1.cell? ⟨w.heap.size, 1, none⟩ = some (.int .i64 d) := by rw [hc1 _ _ (by simp)]; simp [go_sem]
  have klt : w.heap.size < w1.heap.size := by have := hb1.size; simp at this; omega
  clear hc1 hf1 hb1
  go_wp2_with fail
  refine (kw _ (HL.out.at hB G1) (by have := G1.size; omega)).mono ?_
  rintro e w2 ⟨v2, us2, rfl, h2, o2, b2, _⟩
  clear kw
  obtain ⟨a2, c2, rfl⟩ := o2.slice
  have G2 := bt G1 b2
  have j0 : w2.cell? ⟨w.heap.size, 0, none⟩ = some (.int .i64 u) := (b2.cell (p := ⟨w.heap.size, 0, none⟩) klt).trans k0
  have j1 : w2.cell? ⟨w.heap.size, 1, none⟩ = some (.int .i64 d) := (b2.cell (p := ⟨w.heap.size, 1, none⟩) klt).trans k1
  have H2 : Hid (Parts w2 w2.heap.size (.slice a2 us2.length c2) us2 ∧ rd us2 = wk) := ⟨o2.parts, h2⟩
  clear o2 h2 b2 k0 k1
  go_wp2_with fail
  refine (kf _ (HL.out.at hB G2) (by have := G2.size; omega)).mono ?_
  rintro e w3 ⟨v3, us3, rfl, h3, o3, b3, _⟩
  clear kf
  obtain ⟨a3, c3, rfl⟩ := o3.slice
  have G3 := bt G2 b3
  have H3 : Hid (Parts w3 w3.heap.size (.slice a3 us3.length c3) us3 ∧ rd us3 = fk) := ⟨o3.parts, h3⟩
  have H23 : Hid (Parts w3 w3.heap.size (.slice a2 us2.length c2) us2) := (H2.out.1.keep b3).mono b3.size
  clear o3 h3 b3 j0 j1
  by_cases c1 : we = 0
  · subst c1
    by_cases c2 : fe = 0
    · subst c2
      obtain ⟨g1, m1, hl⟩ := weigh_made HW.out
      obtain ⟨g2, m2, _⟩ := flip_made HF.out
      obtain ⟨ka, x, y, q1, q2, q3, y0, y1, x0, x1⟩ := made_scoT rfl hl m1
      obtain ⟨kb, x', y', r1, r2, r3, y0', y1', x0', x1'⟩ := made_scoT rfl hl m2
      have hle := better_score HW.out HF.out q1 r1 q2 r2
      have ks1 := score_any w3.heap.size (.slice a2 us2.length c2) (.slice la l.length lc) us2 l w3 (Nat.le_refl _) H23.out ((HL.out.at hB G3).mono (by have := G3.size; omega)) x y 0 (by rw [H2.out.2]; exact q3)
      have hs : decide (0 < (x + 1073741824 * y) * y' - (x' + 1073741824 * y') * y) = false := by
        rw [decide_eq_false_iff_not, Int.add_mul, Int.add_mul, Int.mul_right_comm 1073741824 y y']
        generalize 1073741824 * y' * y = t
        generalize x * y' = p at hle ⊢
        generalize x' * y = q at hle ⊢
        omega
      have km := fun W => more_any (x + 1073741824 * y) y (x' + 1073741824 * y') y' (by omega) (by omega) y0 (by omega) (by omega) (by omega) y0' (by omega) false hs W
      have kh1 := fun W => shift_any x y x0 x1 y0 y1 W
      have kh2 := fun W => shift_any x' y' x0' x1' y0' y1' W
      have HR3 : Hid (scoT fk l = (x', y', 0)) := r3
      clear hs hle m1 m2 q1 q2 q3 r1 r2 r3 HW HF H2 hl H23
      go_wp2_with fail
      refine ks1.mono ?_
      rintro e w4 ⟨rfl, b4⟩
      clear ks1
      have G4 := bt G3 b4
      have ks2 := score_any w4.heap.size (.slice a3 us3.length c3) (.slice la l.length lc) us3 l w4 (Nat.le_refl _) ((H3.out.1.keep b4).mono b4.size) ((HL.out.at hB G4).mono (by have := G4.size; omega)) x' y' 0 (by rw [H3.out.2]; exact HR3.out)
      clear HR3 H3
      go_wp2_with fail
      refine ks2.mono ?_
      rintro e w5 ⟨rfl, b5⟩
      clear ks2
      have G5 := bt G4 b5
      have f1 : ¬ y < 1 := by omega
      have f2 : ¬ y' < 1 := by omega
      go_wp2_with fail
      refine (kh1 _).mono ?_
      rintro e w6 ⟨rfl, rfl⟩
      go_wp2_with fail
      refine (kh2 _).mono ?_
      rintro e w6 ⟨rfl, rfl⟩
      go_wp2_with fail
      refine (km _).mono ?_
      rintro e w7 ⟨rfl, b7⟩
      have G7 := bt G5 b7
      clear kh1 kh2 km
      go_wp2
      go_ret
      exact ⟨rfl, G7⟩
    · have c3 : (fe == 0) = false := by simpa using c2
      have c4 : (fe != 0) = true := by simpa using c2
      clear H2 H3 H23 HW HF
      go_wp2
      go_ret
      exact ⟨rfl, G3⟩
  · have c3 : (we == 0) = false := by simpa using c1
    have c4 : (we != 0) = true := by simpa using c1
    clear H2 H3 H23 HW HF
    go_wp2
    go_ret
    exact ⟨rfl, G3⟩
end Go.Proofs.Ythmkbkombjhaeaa

namespace Go.Proofs.Ythmkbkombjhaeaa
open Go.ChangeShapes Go.WideShapes Go.ChangeAt Go.RowKit Go.Proofs.Ythmkbkombjhaeaa.Ds Go.Deep

theorem bulk_one {H : Type} (d : DataW H) : 1 ≤ Rows.uptoBulk d := by
  cases d with
  | lit l => cases l <;> simp [Rows.uptoBulk]
  | nil => simp [Rows.uptoBulk]
  | ptr d => simp [Rows.uptoBulk]
  | slice e s => simp [Rows.uptoBulk]
  | agg p => simp [Rows.uptoBulk]
  | iface t d => simp [Rows.uptoBulk]
  | map e => simp [Rows.uptoBulk]
  | held h => simp [Rows.uptoBulk]

theorem bulk_mem {H : Type} {d : DataW H} {l : List (DataW H)} (h : d ∈ l) : Rows.uptoBulk d ≤ Rows.uptoBulkAll l := by
  induction l with
  | nil => cases h
  | cons x r ih =>
    simp only [Rows.uptoBulkAll]
    rcases List.mem_cons.1 h with rfl | h
    · omega
    · have := ih h; omega

theorem bulk_len {H : Type} (l : List (DataW H)) : l.length ≤ Rows.uptoBulkAll l := by
  induction l with
  | nil => simp
  | cons x r ih => have := bulk_one x; simp only [Rows.uptoBulkAll, List.length_cons]; omega

theorem bulk_elem {H : Type} {d : DataW H} {e s : List (DataW H)} (h : d ∈ e) : Rows.uptoBulk d ≤ Rows.uptoBulk (.slice e s) := by
  have := bulk_mem h
  simp only [Rows.uptoBulk]; omega
theorem bulk_slen {H : Type} (e s : List (DataW H)) : e.length ≤ Rows.uptoBulk (.slice e s) := by
  have := bulk_len e
  simp only [Rows.uptoBulk]; omega
theorem bulk_field {H : Type} {d : DataW H} {l : List (DataW H)} (h : d ∈ l) : Rows.uptoBulk d ≤ Rows.uptoBulk (.agg l) := by
  have := bulk_mem h
  simp only [Rows.uptoBulk]; omega

theorem cell_lt {w : World} {a : Addr} {v : Value} (h : w.cell? a = some v) : a.block < w.heap.size := by
  unfold World.cell? at h
  split at h
  · rename_i hb; exact (Array.getElem?_eq_some_iff.1 hb).1
  · cases h

theorem cells3 : Try.prog.cellsOf 3 = 1 := by kernel_rfl
theorem cells24 : Try.prog.cellsOf 24 = 1 := by kernel_rfl

/-- a list of numbers that came in -/
theorem ints_of_trod {H : Type} {enc : TypeId × Value → H} {W : World} {n : Nat} {V : Value} {D : DataW H} {P : List MemPlace} (h : DataW.trod enc Try.prog W 0 (fun _ => true) true n 24 [V] = some (D, P)) (hb : Rows.uptoBulk D ≤ 1048576) :
    ∃ xs, Ints W W.heap.size W.heap.size V xs ∧ (∀ n ∈ xs, -9223372036854775808 ≤ n ∧ n ≤ 9223372036854775807) ∧ xs.length ≤ 1048576 := by
  rcases open_ints Try.underlying24 Try.underlying3 cells3 h with ⟨hcs, _⟩ | ⟨a, len, cap, zs, hcs, _, hl, hmx, hz, hx, hcell, hwz⟩
  · simp at hcs
    subst hcs
    exact ⟨[], ⟨none, 0, rfl, Nat.le_refl _, by simp, fun h => absurd rfl h⟩, by simp, by simp⟩
  · simp at hcs
    subst hcs
    simp only [if_true] at hz
    simp only [Prod.mk.injEq] at hx
    have hlen : (zs.take len).length = len := by simp; omega
    have hbl : len ≤ 1048576 := by
      have := bulk_slen (lits (H := H) .i64 (zs.take len)) (lits .i64 (zs.drop len))
      rw [← hx.1] at this
      simp only [lits, List.length_map, hlen] at this
      omega
    refine ⟨zs.take len, ⟨some a, cap, by rw [hlen], by omega, by omega, fun hne => ?_⟩, fun n hn => bounds_i64 (hwz n (List.mem_of_mem_take hn)), by rw [hlen]; exact hbl⟩
    have hpos : 0 < len := by
      rcases Nat.eq_zero_or_pos len with h0 | h0
      · subst h0; simp at hne
      · exact h0
    obtain ⟨b, o, spot⟩ := a
    have h0 := hcell 0 (by omega)
    have hs : spot = none := by simpa [Addr.add] using World.cell?_spot h0
    subst hs
    have hlt : b < W.heap.size := cell_lt (a := (⟨b, o, none⟩ : Addr).add 0) h0
    refine ⟨b, o, rfl, hlt, by omega, fun i x hi => ?_⟩
    have hi2 : i < len := by rw [← hlen]; exact (List.getElem?_eq_some_iff.1 hi).1
    have h1 := hcell i (by omega)
    rw [Addr.add_lit] at h1
    rw [h1]
    rw [List.getElem?_take_of_lt hi2] at hi
    simp [List.getD, hi]

end Go.Proofs.Ythmkbkombjhaeaa
