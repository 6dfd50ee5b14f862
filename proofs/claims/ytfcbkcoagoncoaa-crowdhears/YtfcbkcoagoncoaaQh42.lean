import Derived.Test.YtfcbkcoagoncoaaQh38
import Derived.Test.YtfcbkcoagoncoaaQh41
import Derived.Test.YtfcbkcoagoncoaaQh09
import Derived.Deep.SlicePairs
import Derived.ProofKit
import Derived.OpenShut
import Derived.JoinedCond
import Derived.Carry
import Derived.SizedLaws
namespace Go.Proofs.Ytfcbkcoagoncoaa
open Go.RowKit Go.Proofs.Ytfcbkcoagoncoaa.Ds Go.Proofs.Ytfcbkcoagoncoaa.Crd

theorem gue_len {u d : Int} {h l : List Int} {r e : Int} (hg : gueT u d h = (l, r, e)) : l.length ≤ 8 := by
  unfold gueT at hg
  by_cases c0 : peoE u d h.length [] = 0
  · obtain ⟨k, hk, hP⟩ := peo_ok c0
    have h7 := hP.k7
    rw [if_neg (by simpa using c0)] at hg
    split at hg
    · simp only [Prod.mk.injEq] at hg; rw [← hg.1]; simp
    · split at hg
      · simp only [Prod.mk.injEq] at hg; rw [← hg.1]; simp
      · simp only [Prod.mk.injEq] at hg; rw [← hg.1]; simp [xsT_len]; omega
  · rw [if_pos c0] at hg
    simp only [Prod.mk.injEq] at hg
    rw [← hg.1]; simp

set_option maxHeartbeats 2000000 in
set_option maxRecDepth 100000 in
theorem crowdHears_walk (B : Nat) (u d K : Int) (v1 v2 : Value) (ts hs : List Int) (w : World) (hB : B ≤ w.heap.size) (hx1 : Num w B v1 ts) (hx2 : Num w B v2 hs) :
    Calls Try.prog 3 #[rv u d, .int .i64 K, v1, v2] w fun e w' => e = .returned (.bool true) ∧ Below w.heap.size w w' := by
  have HN1 : Hid (Num w B v1 ts) := hx1
  have HN2 : Hid (Num w B v2 hs) := hx2
  obtain ⟨va, vc, rfl, _, _, _⟩ := hx1
  obtain ⟨va2, vc2, rfl, _, _, _⟩ := hx2
  obtain ⟨l, e1, hl⟩ : ∃ l e1, shuT u d K ts = (l, e1) := ⟨_, _, rfl⟩
  obtain ⟨m, r, e2, hm⟩ : ∃ m r e2, gueT u d hs = (m, r, e2) := ⟨_, _, _, rfl⟩
  have hml := gue_len hm
  have k1 := fun (W : World) (hW : Below w.heap.size w W) => shuffled_any B u d K (.slice va ts.length vc) ts W (by have := hW.size; omega) (HN1.out.at hB hW) l e1 hl
  have k2 := fun (W : World) (hW : Below w.heap.size w W) => rshuffled_any B u d K (.slice va ts.length vc) ts W (by have := hW.size; omega) (HN1.out.at hB hW) l e1 hl
  have k3 := fun (W : World) (hW : Below w.heap.size w W) => guess_any B u d (.slice va2 hs.length vc2) hs W (by have := hW.size; omega) (HN2.out.at hB hW) m r e2 hm
  have k4 := fun (W : World) (hW : Below w.heap.size w W) => rguess_any B u d (.slice va2 hs.length vc2) hs W (by have := hW.size; omega) (HN2.out.at hB hW) m r e2 hm
  clear hl hm
  go_enter Try.func3, Try.ntmps3
  go_wp2_with fail
  refine (k1 _ (ba _ _)).mono ?_
  rintro x w1 ⟨v1, us1, rfl, hu1, ho1, hb1⟩
  obtain ⟨b1, d1, rfl⟩ := ho1.slice
  have G1 := bt (ba _ _) hb1
  obtain ⟨hc1, hf1⟩ := bcell hb1
  have r1 : w1.cell? ⟨w.heap.size, 0, none⟩ = some (.int .i64 u) := by rw [hc1 _ _ (by simp)]; simp [go_sem]
  have r2 : w1.cell? ⟨w.heap.size, 1, none⟩ = some (.int .i64 d) := by rw [hc1 _ _ (by simp)]; simp [go_sem]
  have hz1 : w.heap.size < w1.heap.size := by have := hb1.size; simp at this; omega
  have HU1 : Hid (rd us1 = l) := hu1
  have HO1 : Hid (Parts w1 w1.heap.size (.slice b1 us1.length d1) us1) := ho1.parts
  clear hc1 hf1 hb1 k1 hu1 ho1
  go_wp2_with fail
  refine (k2 _ G1).mono ?_
  rintro x w2 ⟨v2, us2, rfl, hu2, ho2, hb2⟩
  obtain ⟨b2, d2, rfl⟩ := ho2.slice
  have G2 : Below w.heap.size w w2 := bt G1 hb2
  have hz2 := hb2.size
  have q1 : w2.cell? ⟨w.heap.size, 0, none⟩ = some (.int .i64 u) := (hb2.cell (p := ⟨w.heap.size, 0, none⟩) hz1).trans r1
  have q2 : w2.cell? ⟨w.heap.size, 1, none⟩ = some (.int .i64 d) := (hb2.cell (p := ⟨w.heap.size, 1, none⟩) hz1).trans r2
  have ks := sameR_any w2.heap.size (.slice b1 us1.length d1) (.slice b2 us2.length d2) us1 us2 w2 (Nat.le_refl _) ((HO1.out.keep hb2).mono hz2) ho2.parts true (by rw [HU1.out, hu2]; simp)
  clear k2 hu2 ho2 hb2 r1 r2 HU1 HO1
  go_wp2_with fail
  refine ks.mono ?_
  rintro x w3 ⟨rfl, hb3⟩
  have G3 : Below w.heap.size w w3 := bt G2 hb3
  have hz3 := hb3.size
  have t1 : w3.cell? ⟨w.heap.size, 0, none⟩ = some (.int .i64 u) := (hb3.cell (p := ⟨w.heap.size, 0, none⟩) (by show w.heap.size < _; omega)).trans q1
  have t2 : w3.cell? ⟨w.heap.size, 1, none⟩ = some (.int .i64 d) := (hb3.cell (p := ⟨w.heap.size, 1, none⟩) (by show w.heap.size < _; omega)).trans q2
  clear ks hb3 q1 q2
  go_wp2_with fail
  refine (k3 _ G3).mono ?_
  rintro x w4 ⟨v4, rfl, hn4, hb4⟩
  have G4 : Below w.heap.size w w4 := bt G3 hb4
  have hz4 := hb4.size
  have s1 : w4.cell? ⟨w.heap.size, 0, none⟩ = some (.int .i64 u) := (hb4.cell (p := ⟨w.heap.size, 0, none⟩) (by show w.heap.size < _; omega)).trans t1
  have s2 : w4.cell? ⟨w.heap.size, 1, none⟩ = some (.int .i64 d) := (hb4.cell (p := ⟨w.heap.size, 1, none⟩) (by show w.heap.size < _; omega)).trans t2
  have HN4 : Hid (Num w4 w4.heap.size v4 m) := hn4
  obtain ⟨a4, c4, rfl, _, _, _⟩ := hn4
  clear k3 hb4 t1 t2
  go_wp2_with fail
  refine (k4 _ G4).mono ?_
  rintro x w5 ⟨v5, rfl, hn5, hb5⟩
  have G5 : Below w.heap.size w w5 := bt G4 hb5
  have hz5 := hb5.size
  have I4 : Ints w5 w5.heap.size w5.heap.size (.slice a4 m.length c4) m := ((HN4.out.at (Nat.le_refl _) hb5).mono hz5).ints (by omega) (Nat.le_refl _)
  have I5 : Ints w5 w5.heap.size w5.heap.size v5 m := hn5.ints (by omega) (Nat.le_refl _)
  obtain ⟨a5, c5, rfl, _, _, _⟩ := hn5
  have kq := refCompare_any w5.heap.size w5.heap.size w5.heap.size _ _ m m w5 I4 I5 0 (cmpT_self m)
  clear k4 hb5 s1 s2 I4 I5 HN4
  go_wp2_with fail
  refine kq.mono ?_
  rintro x w6 ⟨rfl, q, hw6⟩
  have G6 : Below w.heap.size w w6 := by rw [hw6]; exact below_drewN G5 _
  clear kq hw6
  go_wp2
  go_ret
  exact ⟨rfl, G6⟩
end Go.Proofs.Ytfcbkcoagoncoaa

namespace Go.Proofs.Ytfcbkcoagoncoaa
open Go.ChangeShapes Go.WideShapes Go.ChangeAt Go.RowKit Go.Proofs.Ytfcbkcoagoncoaa.Ds Go.Deep

theorem cell_lt {w : World} {a : Addr} {v : Value} (h : w.cell? a = some v) : a.block < w.heap.size := by
  unfold World.cell? at h
  split at h
  · rename_i hb; exact (Array.getElem?_eq_some_iff.1 hb).1
  · cases h
theorem cells3 : Try.prog.cellsOf 3 = 1 := by kernel_rfl
theorem maxLen_eq : maxLen = 9223372036854775807 := by decide
/-- numbers that came in, however many -/
theorem num_of_trod {H : Type} {enc : TypeId × Value → H} {W : World} {n : Nat} {V : Value} {D : DataW H} {P : List MemPlace} (h : DataW.trod enc Try.prog W 0 (fun _ => true) true n 24 [V] = some (D, P)) :
    ∃ xs, Num W W.heap.size V xs ∧ (∀ n ∈ xs, -9223372036854775808 ≤ n ∧ n ≤ 9223372036854775807) ∧ (xs = [] ∨ ∃ e s : List (DataW H), D = .slice e s ∧ e.length = xs.length) := by
  rcases open_ints Try.underlying24 Try.underlying3 cells3 h with ⟨hcs, _⟩ | ⟨a, len, cap, zs, hcs, _, hl, hmx, hz, hx, hcell, hwz⟩
  · simp at hcs
    subst hcs
    exact ⟨[], ⟨none, 0, rfl, Nat.le_refl _, by simp, fun h => absurd rfl h⟩, by simp, .inl rfl⟩
  · simp at hcs
    subst hcs
    simp only [if_true] at hz
    simp only [Prod.mk.injEq] at hx
    have hlen : (zs.take len).length = len := by simp; omega
    rw [maxLen_eq] at hmx
    refine ⟨zs.take len, ⟨some a, cap, by rw [hlen], by omega, by omega, fun hne => ?_⟩, fun n hn => bounds_i64 (hwz n (List.mem_of_mem_take hn)), .inr ⟨_, _, hx.1, by simp [lits]⟩⟩
    have hpos : 0 < len := by
      rcases Nat.eq_zero_or_pos len with h0 | h0
      · subst h0; simp at hne
      · exact h0
    obtain ⟨b, o, spot⟩ := a
    have h0 := hcell 0 (by omega)
    have hs : spot = none := by simpa [Addr.add] using World.cell?_spot h0
    subst hs
    have hlt : b < W.heap.size := cell_lt (a := (⟨b, o, none⟩ : Addr).add 0) h0
    refine ⟨b, o, rfl, hlt, fun i x hi => ?_⟩
    have hi2 : i < len := by rw [← hlen]; exact (List.getElem?_eq_some_iff.1 hi).1
    have h1 := hcell i (by omega)
    rw [Addr.add_lit] at h1
    rw [h1]
    rw [List.getElem?_take_of_lt hi2] at hi
    simp [List.getD, hi]
theorem bytes3 : Try.prog.bytesOf 3 = 8 := by kernel_rfl
/-- no more than a process's addresses hold -/
theorem num_sized {H : Type} {ts : List TypeId} {ds : List (DataW H)} (h : (DataW.weightsEach Try.prog ts ds).all (· ≤ reachBytes) = true) {j : Nat} {D : DataW H} (ht : ts[j]? = some 24) (hd : ds[j]? = some D) {xs : List Int} (hx : xs = [] ∨ ∃ e s : List (DataW H), D = .slice e s ∧ e.length = xs.length) : xs.length ≤ 17592186044416 := by
  rcases hx with rfl | ⟨e, s, rfl, he⟩
  · simp
  · have := sized_slice h ht hd Try.underlying24
    rw [bytes3] at this
    unfold reachBytes at this
    omega
end Go.Proofs.Ytfcbkcoagoncoaa
