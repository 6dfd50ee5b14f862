import Derived.Test.YthmkbkombjhaeaaQw42
import Derived.Test.YthmkbkombjhaeaaQw40
import Derived.Test.YthmkbkombjhaeaaQw44
import Derived.Test.YthmkbkombjhaeaaQw60
import Derived.Test.YthmkbkombjhaeaaQw62
import Derived.Test.YthmkbkombjhaeaaQw65
import Derived.Test.YthmkbkombjhaeaaQw34
import Derived.Test.YthmkbkombjhaeaaQw66
import Derived.Test.YthmkbkombjhaeaaQw04
import Derived.Deep.SlicePairs
import Derived.ProofKit
import Derived.OpenShut
import Derived.JoinedCond
import Derived.Carry
namespace Go.Proofs.Ythmkbkombjhaeaa
open Go.RowKit Go.Proofs.Ythmkbkombjhaeaa.Ds

theorem midT_len {xs ys : List Int} {er : Int} (h : midT xs = (ys, er)) : ys.length ≤ 4096 := by
  by_cases c : er = 0
  · subst c
    obtain ⟨h1, _, h3⟩ := midT_ok h
    rw [h1]
    simpa using h3
  · unfold midT at h
    by_cases c2 : midE xs = 0
    · rw [if_neg (by simpa using c2)] at h
      simp only [Prod.mk.injEq] at h
      exact absurd h.2.symm c
    · rw [if_pos c2] at h
      simp only [Prod.mk.injEq] at h
      rw [← h.1]
      simp

set_option maxHeartbeats 4000000 in
set_option maxRecDepth 100000 in
theorem choiceWeighs_walk (B : Nat) (u d : Int) (v dv cv : Value) (l : List Int) (ts : List Tr) (cs : List Int) (w : World) (hB : B ≤ w.heap.size) (hl : Num w B v l) (hd : Parts w B dv ts) (hc : Num w B cv cs) :
    Calls Try.prog 3 #[rv u d, v, dv, cv] w fun e w' => e = .returned (.bool true) ∧ Below w.heap.size w w' := by
  have HL : Hid (Num w B v l) := hl
  have HD : Hid (Parts w B dv ts) := hd
  have HC : Hid (Num w B cv cs) := hc
  obtain ⟨⟨wk, we⟩, hwa⟩ : ∃ z, weighT u d l = z := ⟨_, rfl⟩
  obtain ⟨⟨fk, fe⟩, hfa⟩ : ∃ z, flipT u d l = z := ⟨_, rfl⟩
  obtain ⟨⟨sx, sy, se⟩, hsa⟩ : ∃ z, scoT (rd ts) l = z := ⟨_, rfl⟩
  obtain ⟨⟨ms, me⟩, hma⟩ : ∃ z, midT cs = z := ⟨_, rfl⟩
  have kw := fun W h hB => weigh_any B u d v l W h hB wk we hwa
  have kw2 := fun W h hB => rweigh_any B u d v l W h hB wk we hwa
  have kf := fun W h hB => flip_any B u d v l W h hB fk fe hfa
  have kf2 := fun W h hB => rflip_any B u d v l W h hB fk fe hfa
  have ks := fun W hB hp hu => score_any B dv v ts l W hB hp hu sx sy se hsa
  have ks2 := fun W hB hp hu => rscore_any B dv v ts l W hB hp hu sx sy se hsa
  have km := fun W h hB => middle_any B cv cs W h hB ms me hma
  have km2 := fun W h hB => rmiddle_any B cv cs W h hB ms me hma
  have hml := midT_len hma
  obtain ⟨la, lc, rfl, hlc, hll, _⟩ := hl
  obtain ⟨da, dc, rfl, hdc, hdl, _⟩ := hd
  obtain ⟨ca, cc, rfl, hcc, hcl, _⟩ := hc
  clear hwa hfa hsa hma
  go_enter Try.func3, Try.ntmps3
  go_wp2_with fail
  refine (kw _ (HL.out.at hB (ba _ _)) (by simp; omega)).mono ?_
  rintro e w1 ⟨v1, us1, rfl, h1, o1, hb1, _⟩
  clear kw
  have G1 := bt (ba _ _) hb1
  obtain ⟨hc1, hf1⟩ := bcell hb1
  have k0 : w1.cell? ⟨w.heap.size, 0, none⟩ = some (.int .i64 u) := by rw [hc1 _ _ (by simp)]; simp [go_sem]
  have k1 : w1.cell? ⟨w.heap.size, 1, none⟩ = some (.int .i64 d) := by rw [hc1 _ _ (by simp)]; simp [go_sem]
  have klt : w.heap.size < w1.heap.size := by have := hb1.size; simp at this; omega
  obtain ⟨a1, c1, rfl⟩ := o1.slice
  have H1 : Hid (Parts w1 w1.heap.size (.slice a1 us1.length c1) us1) := o1.parts
  have R1 : Hid (rd us1 = wk) := h1
  clear hc1 hf1 hb1 o1 h1
  go_wp2_with fail
  refine (kw2 _ (HL.out.at hB G1) (by have := G1.size; omega)).mono ?_
  rintro e w2 ⟨v2, us2, rfl, h2, o2, hb2⟩
  clear kw2
  have G2 := bt G1 hb2
  have klt2 : w.heap.size < w2.heap.size := by have := hb2.size; omega
  have j0 : w2.cell? ⟨w.heap.size, 0, none⟩ = some (.int .i64 u) := (hb2.cell (p := ⟨w.heap.size, 0, none⟩) klt).trans k0
  have j1 : w2.cell? ⟨w.heap.size, 1, none⟩ = some (.int .i64 d) := (hb2.cell (p := ⟨w.heap.size, 1, none⟩) klt).trans k1
  obtain ⟨a2, c2, rfl⟩ := o2.slice
  have km1 := sameR_any w2.heap.size _ _ us1 us2 w2 (Nat.le_refl _) ((H1.out.keep hb2).mono hb2.size) o2.parts true (by rw [R1.out, h2]; simp)
  clear hb2 o2 h2 H1 R1 k0 k1 klt
  go_wp2_with fail
  refine km1.mono ?_
  rintro e w3 ⟨rfl, hb3⟩
  clear km1
  have G3 := bt G2 hb3
  have k0 : w3.cell? ⟨w.heap.size, 0, none⟩ = some (.int .i64 u) := (hb3.cell (p := ⟨w.heap.size, 0, none⟩) klt2).trans j0
  have k1 : w3.cell? ⟨w.heap.size, 1, none⟩ = some (.int .i64 d) := (hb3.cell (p := ⟨w.heap.size, 1, none⟩) klt2).trans j1
  have klt : w.heap.size < w3.heap.size := by have := hb3.size; omega
  clear hb3 j0 j1 klt2
  go_wp2_with fail
  refine (kf _ (HL.out.at hB G3) (by have := G3.size; omega)).mono ?_
  rintro e w4 ⟨v4, us4, rfl, h4, o4, hb4, _⟩
  clear kf
  have G4 := bt G3 hb4
  have j0 : w4.cell? ⟨w.heap.size, 0, none⟩ = some (.int .i64 u) := (hb4.cell (p := ⟨w.heap.size, 0, none⟩) klt).trans k0
  have j1 : w4.cell? ⟨w.heap.size, 1, none⟩ = some (.int .i64 d) := (hb4.cell (p := ⟨w.heap.size, 1, none⟩) klt).trans k1
  obtain ⟨a4, c4, rfl⟩ := o4.slice
  have H4 : Hid (Parts w4 w4.heap.size (.slice a4 us4.length c4) us4) := o4.parts
  have R4 : Hid (rd us4 = fk) := h4
  clear hb4 o4 h4 k0 k1 klt
  go_wp2_with fail
  refine (kf2 _ (HL.out.at hB G4) (by have := G4.size; omega)).mono ?_
  rintro e w5 ⟨v5, us5, rfl, h5, o5, hb5⟩
  clear kf2 j0 j1
  have G5 := bt G4 hb5
  obtain ⟨a5, c5, rfl⟩ := o5.slice
  have km3 := sameR_any w5.heap.size _ _ us4 us5 w5 (Nat.le_refl _) ((H4.out.keep hb5).mono hb5.size) o5.parts true (by rw [R4.out, h5]; simp)
  clear hb5 o5 h5 H4 R4
  go_wp2_with fail
  refine km3.mono ?_
  rintro e w6 ⟨rfl, hb6⟩
  clear km3
  have G6 := bt G5 hb6
  clear hb6
  go_wp2_with fail
  refine (ks _ (by have := G6.size; omega) (HD.out.at hB G6) (HL.out.at hB G6)).mono ?_
  rintro e w7 ⟨rfl, hb7⟩
  clear ks
  have G7 := bt G6 hb7
  clear hb7
  go_wp2_with fail
  refine (ks2 _ (by have := G7.size; omega) (HD.out.at hB G7) (HL.out.at hB G7)).mono ?_
  rintro e w8 ⟨rfl, hb8⟩
  clear ks2
  have G8 := bt G7 hb8
  clear hb8
  go_wp2_with fail
  refine (km _ (HC.out.at hB G8) (by have := G8.size; omega)).mono ?_
  rintro e w9 ⟨v9, rfl, n9, hb9⟩
  clear km
  have G9 := bt G8 hb9
  obtain ⟨a9, c9, rfl, hc9, hl9, _⟩ := id n9
  have H9 : Hid (Num w9 w9.heap.size (.slice a9 ms.length c9) ms) := n9
  clear hb9 n9
  go_wp2_with fail
  refine (km2 _ (HC.out.at hB G9) (by have := G9.size; omega)).mono ?_
  rintro e w10 ⟨v10, rfl, n10, hb10⟩
  clear km2
  have G10 := bt G9 hb10
  obtain ⟨a10, c10, rfl, hc10, hl10, _⟩ := id n10
  have kc := refCompare_any w10.heap.size w10.heap.size w10.heap.size _ _ ms ms w10 (((H9.out.keep hb10).mono hb10.size).ints (by omega) (Nat.le_refl _)) (n10.ints (by omega) (Nat.le_refl _)) 0 (cmpT_self ms)
  clear hb10 n10 H9
  go_wp2_with fail
  refine kc.mono ?_
  rintro e w11 ⟨rfl, q, rfl⟩
  clear kc
  have G11 := below_drewN G10 q
  go_wp2
  go_ret
  exact ⟨rfl, G11⟩
end Go.Proofs.Ythmkbkombjhaeaa

namespace Go.Proofs.Ythmkbkombjhaeaa
open Go.ChangeShapes Go.WideShapes Go.ChangeAt Go.RowKit Go.Proofs.Ythmkbkombjhaeaa.Ds Go.Deep

theorem bulk_one {H : Type} (d : DataW H) : 1 ≤ Rows.uptoBulk d := by
  cases d with
  | lit l => cases l <;> simp [Rows.uptoBulk]
  | nil => simp [Rows.uptoBulk]
  | ptr d => simp [Rows.uptoBulk]
  | slice e s => simp [Rows.uptoBulk]
  | agg p => simp [Rows.uptoBulk]
  | iface t d => simp [Rows.uptoBulk]
  | map e => simp [Rows.uptoBulk]
  | held h => simp [Rows.uptoBulk]

theorem bulk_mem {H : Type} {d : DataW H} {l : List (DataW H)} (h : d ∈ l) : Rows.uptoBulk d ≤ Rows.uptoBulkAll l := by
  induction l with
  | nil => cases h
  | cons x r ih =>
    simp only [Rows.uptoBulkAll]
    rcases List.mem_cons.1 h with rfl | h
    · omega
    · have := ih h; omega

theorem bulk_len {H : Type} (l : List (DataW H)) : l.length ≤ Rows.uptoBulkAll l := by
  induction l with
  | nil => simp
  | cons x r ih => have := bulk_one x; simp only [Rows.uptoBulkAll, List.length_cons]; omega

theorem bulk_elem {H : Type} {d : DataW H} {e s : List (DataW H)} (h : d ∈ e) : Rows.uptoBulk d ≤ Rows.uptoBulk (.slice e s) := by
  have := bulk_mem h
  simp only [Rows.uptoBulk]; omega
theorem bulk_slen {H : Type} (e s : List (DataW H)) : e.length ≤ Rows.uptoBulk (.slice e s) := by
  have := bulk_len e
  simp only [Rows.uptoBulk]; omega
theorem bulk_field {H : Type} {d : DataW H} {l : List (DataW H)} (h : d ∈ l) : Rows.uptoBulk d ≤ Rows.uptoBulk (.agg l) := by
  have := bulk_mem h
  simp only [Rows.uptoBulk]; omega

theorem cell_lt {w : World} {a : Addr} {v : Value} (h : w.cell? a = some v) : a.block < w.heap.size := by
  unfold World.cell? at h
  split at h
  · rename_i hb; exact (Array.getElem?_eq_some_iff.1 hb).1
  · cases h

theorem cells3 : Try.prog.cellsOf 3 = 1 := by kernel_rfl
theorem cells24 : Try.prog.cellsOf 24 = 1 := by kernel_rfl

/-- a list of numbers that came in -/
theorem ints_of_trod {H : Type} {enc : TypeId × Value → H} {W : World} {n : Nat} {V : Value} {D : DataW H} {P : List MemPlace} (h : DataW.trod enc Try.prog W 0 (fun _ => true) true n 24 [V] = some (D, P)) (hb : Rows.uptoBulk D ≤ 1048576) :
    ∃ xs, Ints W W.heap.size W.heap.size V xs ∧ (∀ n ∈ xs, -9223372036854775808 ≤ n ∧ n ≤ 9223372036854775807) ∧ xs.length ≤ 1048576 := by
  rcases open_ints Try.underlying24 Try.underlying3 cells3 h with ⟨hcs, _⟩ | ⟨a, len, cap, zs, hcs, _, hl, hmx, hz, hx, hcell, hwz⟩
  · simp at hcs
    subst hcs
    exact ⟨[], ⟨none, 0, rfl, Nat.le_refl _, by simp, fun h => absurd rfl h⟩, by simp, by simp⟩
  · simp at hcs
    subst hcs
    simp only [if_true] at hz
    simp only [Prod.mk.injEq] at hx
    have hlen : (zs.take len).length = len := by simp; omega
    have hbl : len ≤ 1048576 := by
      have := bulk_slen (lits (H := H) .i64 (zs.take len)) (lits .i64 (zs.drop len))
      rw [← hx.1] at this
      simp only [lits, List.length_map, hlen] at this
      omega
    refine ⟨zs.take len, ⟨some a, cap, by rw [hlen], by omega, by omega, fun hne => ?_⟩, fun n hn => bounds_i64 (hwz n (List.mem_of_mem_take hn)), by rw [hlen]; exact hbl⟩
    have hpos : 0 < len := by
      rcases Nat.eq_zero_or_pos len with h0 | h0
      · subst h0; simp at hne
      · exact h0
    obtain ⟨b, o, spot⟩ := a
    have h0 := hcell 0 (by omega)
    have hs : spot = none := by simpa [Addr.add] using World.cell?_spot h0
    subst hs
    have hlt : b < W.heap.size := cell_lt (a := (⟨b, o, none⟩ : Addr).add 0) h0
    refine ⟨b, o, rfl, hlt, by omega, fun i x hi => ?_⟩
    have hi2 : i < len := by rw [← hlen]; exact (List.getElem?_eq_some_iff.1 hi).1
    have h1 := hcell i (by omega)
    rw [Addr.add_lit] at h1
    rw [h1]
    rw [List.getElem?_take_of_lt hi2] at hi
    simp [List.getD, hi]

end Go.Proofs.Ythmkbkombjhaeaa
