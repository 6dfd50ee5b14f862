import Derived.Test.YtcglfojbgdlbhaaRbd
import Derived.Lib.SliceRun
namespace Go.Proofs.Ytcglfojbgdlbhaa
open Go.RowKit Go.Shelf Go.Proofs.Ytcglfojbgdlbhaa.Ds

theorem Ints.at3 {w w' : World} {B nb : Nat} {v : Value} {xs : List Int} (h : Ints w B nb v xs) (hB : B ≤ w.heap.size) (hb : Below w.heap.size w w') : Ints w' B nb v xs := h.keep (hb.mono hB)

theorem keep11_any (C bx : Nat) (u v : Value) (xs ys : List Int) (w : World) (hc : w.cell? ⟨bx, 0, none⟩ = some v) (hu : Ints w C C u xs) (hv : Ints w C C v ys) (r : Bool) (hr : decide (xs = ys) = r) :
    Calls Try.prog 68 #[u, .pointer (some ⟨bx, 0, none⟩)] w fun e w' => e = .returned (.bool r) ∧ ∃ q, w' = w.drewN q := by
  have kc := equalI_any C C C u v xs ys w hu hv r hr
  obtain ⟨ua, uc, rfl, _⟩ := hu
  obtain ⟨va, vc, rfl, _⟩ := hv
  clear hr
  go_enter Try.func68, Try.ntmps68
  go_wp2_with fail
  refine kc.mono ?_
  rintro e w1 ⟨rfl, q, rfl⟩
  go_wp2
  go_ret
  exact ⟨rfl, q, rfl⟩

theorem Lsts.at {w w' : World} {B : Nat} {v : Value} {zs : List Vl} (h : Lsts w B v zs) (hB : B ≤ w.heap.size) (hb : Below w.heap.size w w') : Lsts w' B v zs := h.keep (hb.mono hB)

/-- it is none of those so far -/
def Nol (zs : List Vl) (i : Nat) (ys : List Int) : Prop := ∀ j z, j < i → zs[j]? = some z → z.2 ≠ ys

set_option maxHeartbeats 1000000 in
theorem indexL_any (B C bx : Nat) (v u : Value) (zs : List Vl) (ys : List Int) (w : World) (hB : B ≤ w.heap.size) (hBC : B ≤ C) (hCs : C ≤ w.heap.size) (hbx : bx < w.heap.size) (hc : w.cell? ⟨bx, 0, none⟩ = some u) (hp : Lsts w B v zs) (hz : zs.length ≤ 1073741824) (hu : Ints w C C u ys) :
    Calls Try.prog 94 #[v, .func (.func 68) #[] #[.pointer (some ⟨bx, 0, none⟩)]] w fun e w' => ∃ r : Int, e = .returned (.int .i64 r) ∧ (0 ≤ r ↔ ∃ z ∈ zs, z.2 = ys) ∧ Below w.heap.size w w' := by
  have HP : Hid (Lsts w B v zs) := hp
  have HU : Hid (Ints w C C u ys) := hu
  obtain ⟨a, c, rfl, hcc, _, _⟩ := hp
  obtain ⟨ua, uc, rfl, _⟩ := hu
  go_enter Try.func94, Try.ntmps94
  go_wp2
  go_loopw [8] (fun s wr => ∃ i : Nat, s = .int .i64 (i : Int) ∧ i ≤ zs.length ∧ Hid (Nol zs i ys) ∧ Below w.heap.size w wr) (fun s _ => zs.length - (intOf s).toNat)
  case atStart => exact ⟨0, rfl, Nat.zero_le _, fun j z h => by omega, Below.refl _ _⟩
  case round =>
    obtain ⟨i, rfl, hit, HN, hbl⟩ := hrel
    have hbs := hbl.size
    by_cases h1 : i < zs.length
    · obtain ⟨b, o, sa, sc, xs, rfl, hb, hs, d1, hI⟩ := HP.out.get hB hbl h1
      have HS : Hid (zs[i]? = some (.slice sa xs.length sc, xs)) := hs
      obtain ⟨r, hr⟩ : ∃ r, decide (xs = ys) = r := ⟨_, rfl⟩
      have HE : Hid (decide (xs = ys) = r) := hr
      have cb := (hbl.cell (p := ⟨bx, 0, none⟩) hbx).trans hc
      have kc := keep11_any C bx (.slice sa xs.length sc) (.slice ua ys.length uc) xs ys wr cb (hI.mono hBC (.inr hBC)) (HU.out.at hCs hbl) r hr
      clear hs hI hr
      go_wp2_with fail
      refine kc.mono ?_
      rintro e w2 ⟨rfl, q, rfl⟩
      clear kc
      cases r with
      | true =>
        have HY : Hid (∃ z ∈ zs, z.2 = ys) := ⟨_, List.mem_of_getElem? HS.out, of_decide_eq_true HE.out⟩
        go_wp2
        go_ret
        exact ⟨_, rfl, ⟨fun _ => HY.out, fun _ => by omega⟩, below_drewN hbl _⟩
      | false =>
        have HN2 : Hid (Nol zs (i + 1) ys) := by
          intro j z hj hz
          by_cases he : j = i
          · subst he
            rw [HS.out] at hz
            simp at hz
            subst hz
            exact of_decide_eq_false HE.out
          · exact HN.out j z (by omega) hz
        go_wp2
        go_roundw
        case rel => exact ⟨i + 1, by go_num, h1, HN2, below_drewN hbl _⟩
        case measure => simp [intOf]; omega
    · have HX : Hid (¬ ∃ z ∈ zs, z.2 = ys) := by
        rintro ⟨z, hz, he⟩
        obtain ⟨j, hj⟩ := List.getElem?_of_mem hz
        exact HN.out j z (by have := (List.getElem?_eq_some_iff.1 hj).1; omega) hj he
      go_wp2
      go_ret
      exact ⟨-1, rfl, ⟨fun h => by omega, fun h => absurd h HX.out⟩, hbl⟩

/-- is it one of them? -/
def inL (zs : List (List Int)) (x : List Int) : Bool := zs.contains x
theorem inL_iff (zs : List Vl) (ys : List Int) : inL (zs.map (·.2)) ys = true ↔ ∃ z ∈ zs, z.2 = ys := by
  simp [inL, eq_comm]

theorem containsL_any (B C bx : Nat) (v u : Value) (zs : List Vl) (ys : List Int) (w : World) (hB : B ≤ w.heap.size) (hBC : B ≤ C) (hCs : C ≤ w.heap.size) (hbx : bx < w.heap.size) (hc : w.cell? ⟨bx, 0, none⟩ = some u) (hp : Lsts w B v zs) (hz : zs.length ≤ 1073741824) (hu : Ints w C C u ys) (r : Bool) (hr : inL (zs.map (·.2)) ys = r) :
    Calls Try.prog 67 #[v, .func (.func 68) #[] #[.pointer (some ⟨bx, 0, none⟩)]] w fun e w' => e = .returned (.bool r) ∧ Below w.heap.size w w' := by
  have kc := indexL_any B C bx v u zs ys w hB hBC hCs hbx hc hp hz hu
  have HR : Hid (inL (zs.map (·.2)) ys = r) := hr
  obtain ⟨a, c, rfl, _⟩ := hp
  clear hr
  go_enter Try.func67, Try.ntmps67
  go_wp2_with fail
  refine kc.mono ?_
  rintro e w1 ⟨i, rfl, hi, hb⟩
  have hri : decide (0 ≤ i) = r := by
    rw [← HR.out]
    have h2 := inL_iff zs ys
    by_cases h0 : 0 ≤ i
    · rw [decide_eq_true h0, h2.2 (hi.1 h0)]
    · rw [decide_eq_false h0]
      cases h3 : inL (zs.map (·.2)) ys with
      | false => rfl
      | true => exact absurd (hi.2 (h2.1 h3)) h0
  have HRI : Hid (decide (0 ≤ i) = r) := hri
  clear kc hri
  go_wp2
  go_ret
  exact ⟨ret_b HRI.out, hb⟩

theorem keepf_any (B C bo : Nat) (u v : Value) (zs : List Vl) (xs : List Int) (w : World) (hB : B ≤ w.heap.size) (hBC : B ≤ C) (hCs : C ≤ w.heap.size) (hc : w.cell? ⟨bo, 0, none⟩ = some v) (hp : Lsts w B v zs) (hz : zs.length ≤ 1073741824) (hu : Ints w C C u xs) (r : Bool) (hr : inL (zs.map (·.2)) xs = r) :
    Calls Try.prog 66 #[u, .pointer (some ⟨bo, 0, none⟩)] w fun e w' => e = .returned (.bool r) ∧ Below w.heap.size w w' := by
  have hlt : bo < w.heap.size := World.block_lt_of_cell? w ⟨bo, 0, none⟩ hc
  have HP : Hid (Lsts w B v zs) := hp
  have HU : Hid (Ints w C C u xs) := hu
  obtain ⟨a, c, rfl, _⟩ := hp
  obtain ⟨ua, uc, rfl, _⟩ := hu
  have kc := containsL_any B C w.heap.size (.slice a zs.length c) (.slice ua xs.length uc) zs xs (w.alloc (.cells #[.slice ua xs.length uc] 24)) (by simp; omega) hBC (by simp; omega) (by simp) (by simp [go_sem]) (HP.out.at hB (ba _ _)) hz (HU.out.at hCs (ba _ _)) r hr
  have hc2 : (w.alloc (.cells #[.slice ua xs.length uc] 24)).cell? ⟨bo, 0, none⟩ = some (.slice a zs.length c) := ((ba w _).cell (p := ⟨bo, 0, none⟩) hlt).trans hc
  clear hr
  go_enter Try.func66, Try.ntmps66
  go_wp2_with fail
  refine kc.mono ?_
  rintro e w1 ⟨rfl, hb⟩
  clear kc
  go_wp2
  go_ret
  exact ⟨rfl, bt (ba _ _) hb⟩

set_option maxHeartbeats 1000000 in
theorem delf_any (B C bo bf : Nat) (s v : Value) (k : Int) (zs : List Vl) (xs : List Int) (w : World) (hB : B ≤ w.heap.size) (hCs : C ≤ w.heap.size) (hc : w.cell? ⟨bo, 0, none⟩ = some v) (hf : w.cell? ⟨bf, 0, none⟩ = some (.func (.func 66) #[] #[.pointer (some ⟨bo, 0, none⟩)])) (hp : Lsts w B v zs) (hz : zs.length ≤ 1073741824) (hs : Ints w C C s xs) (r : Bool) (hr : inL (zs.map (·.2)) xs = r) :
    Calls Try.prog 93 #[.agg #[s, .int .i64 k], .pointer (some ⟨bf, 0, none⟩)] w fun e w' => e = .returned (.bool (!r)) ∧ Below w.heap.size w w' := by
  have hlt : bf < w.heap.size := World.block_lt_of_cell? w ⟨bf, 0, none⟩ hf
  have hlo : bo < w.heap.size := World.block_lt_of_cell? w ⟨bo, 0, none⟩ hc
  have HP : Hid (Lsts w B v zs) := hp
  have HS : Hid (Ints w C C s xs) := hs
  have HR : Hid (inL (zs.map (·.2)) xs = r) := hr
  obtain ⟨sa, sc, rfl, _⟩ := hs
  obtain ⟨W, hW⟩ : ∃ W, w.alloc (.cells #[.slice sa xs.length sc, .int .i64 k] 32) = W := ⟨_, rfl⟩
  have HW : Hid (Below w.heap.size w W) := hW ▸ ba w _
  have hWs : W.heap.size = w.heap.size + 1 := by rw [← hW]; simp
  have g1 : W.cell? ⟨w.heap.size, 0, none⟩ = some (.slice sa xs.length sc) := by rw [← hW]; simp [go_sem]
  have g2 : W.cell? ⟨bf, 0, none⟩ = some (.func (.func 66) #[] #[.pointer (some ⟨bo, 0, none⟩)]) := (HW.out.cell (p := ⟨bf, 0, none⟩) hlt).trans hf
  have g3 : W.cell? ⟨bo, 0, none⟩ = some v := (HW.out.cell (p := ⟨bo, 0, none⟩) hlo).trans hc
  have lf : bf < W.heap.size := by omega
  have lw : w.heap.size < W.heap.size := by omega
  have lo : bo < W.heap.size := by omega
  clear hr
  go_enter Try.func93, Try.ntmps93
  go_wp2_with fail
  clear hW
  go_region_held3 (fun w' => w'.cell? ⟨w.heap.size, 0, none⟩ = some (.slice sa xs.length sc) ∧ w'.cell? ⟨bf, 0, none⟩ = some (.func (.func 66) #[] #[.pointer (some ⟨bo, 0, none⟩)]))
    ((go_split_ands; refine ⟨?_, ?_⟩ <;> first | assumption | (simp [go_sem, *]; done)))
    (first
      | (go_at_call 87; refine (cloneN_any C C _ xs _ ?_ ?_).mono ?_; (show C ≤ W.heap.size; omega); (exact (HS.out.at hCs HW.out).at (by omega) (Below.refl _ _).drew); rintro x1 w1 ⟨v1, rfl, hI1, hb1⟩; have hz1 : 0 < W.heap.size := (by omega); obtain ⟨a1, c1, hv1, _⟩ := hI1 0 hz1; subst hv1; obtain ⟨hc1, hf1⟩ := bcell hb1; have hs1 : W.heap.size ≤ w1.heap.size := hb1.size; have k1 : w1.cell? ⟨w.heap.size, 0, none⟩ = some (.slice sa xs.length sc) := (hc1 w.heap.size 0 lw).trans g1; have k2 : w1.cell? ⟨bf, 0, none⟩ = some (.func (.func 66) #[] #[.pointer (some ⟨bo, 0, none⟩)]) := (hc1 bf 0 lf).trans g2; have k3 : w1.cell? ⟨bo, 0, none⟩ = some v := (hc1 bo 0 lo).trans g3; clear hc1 hf1)
      | (go_at_call 66; refine (keepf_any B w1.heap.size bo (.slice a1 xs.length c1) v zs xs w1 ?_ ?_ (Nat.le_refl _) k3 ?_ hz ?_ r HR.out).mono ?_; (omega); (omega); (exact (HP.out.at hB HW.out).at (by omega) (bt (Below.refl _ _).drew hb1)); (exact (hI1 0 hz1).mono (Nat.le_refl _) (.inr (Nat.le_refl _))); rintro x2 w2 ⟨rfl, hb2⟩; obtain ⟨hc2, hf2⟩ := bcell hb2; have k4 : w2.cell? ⟨w.heap.size, 0, none⟩ = some (.slice sa xs.length sc) := (hc2 w.heap.size 0 (Nat.lt_of_lt_of_le lw hs1)).trans k1; have k5 : w2.cell? ⟨bf, 0, none⟩ = some (.func (.func 66) #[] #[.pointer (some ⟨bo, 0, none⟩)]) := (hc2 bf 0 (Nat.lt_of_lt_of_le lf hs1)).trans k2; clear hc2 hf2))
  go_wp2
  go_ret
  exact ⟨rfl, bt (bt (bt HW.out (Below.refl _ _).drew) hb1) hb2⟩
end Go.Proofs.Ytcglfojbgdlbhaa
