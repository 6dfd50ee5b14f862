import Derived.Test.YthmkbkombjhaeaaQw15
import Derived.Test.YthmkbkombjhaeaaQw20
namespace Go.Proofs.Ythmkbkombjhaeaa
open Go.RowKit Go.Proofs.Ythmkbkombjhaeaa.Ds

/-- numbers of some weights, as far as one has come -/
def numP (ws : List Int) : List Pt := (List.range ws.length).map fun (i : Nat) => ([(i : Int)], ws.getD i 0)
theorem num_take {ws : List Int} {i : Nat} {x : Int} (h : ws[i]? = some x) : (numP ws)[i]? = some ([(i : Int)], x) := by
  have hi := (List.getElem?_eq_some_iff.1 h).1
  have e : ws[i] = x := (List.getElem?_eq_some_iff.1 h).2
  simp [numP, hi, List.getD, e]
theorem num_plen (ws : List Int) : (numP ws).length = ws.length := by simp [numP]

set_option maxHeartbeats 1000000 in
set_option maxRecDepth 100000 in
theorem numbered_fr (B : Nat) (v : Value) (ws : List Int) (w : World) (h : Num w B v ws) (hB : B ≤ w.heap.size) (hl8 : ws.length ≤ 8) (l : List Pt) (er : Int) (hr : makeT (numP ws) = (l, er)) :
    Calls Try.prog 26 #[v] w fun e w' => ∃ v' us, e = .returned (.tuple #[v', .int .i64 er]) ∧ rd us = l ∧ OwnN w' w.heap.size v' us ∧ Below w.heap.size w w' ∧ Frs w.heap.size us := by
  have HN : Hid (Num w B v ws) := h
  have HR : Hid (makeT (numP ws) = (l, er)) := hr
  obtain ⟨a, c, rfl, hc, hl, _⟩ := h
  obtain ⟨i0, hi, hz0, hz1, hz2⟩ := info_parts info32
  have hmk : ∀ u : World, (Instr.makeSlice 25 (.int .i64 (ws.length : Int)) (.int .i64 (ws.length : Int))).run Try.prog u =
      .ok (.slice (some ⟨u.heap.size, 0, none⟩) ws.length ws.length) (u.alloc (.cells (madeCells #[.slice none 0 0, .int .i64 0] (ws.length * 2)) 55)) := fun u => by
    have h := run_make (P := Try.prog) u 25 55 i0 (.agg #[.slice none 0 0, .int .i64 0]) Try.underlying25 hi hz0 .i64 .i64 (ws.length : Int) (ws.length : Int) (by omega) (Int.le_refl _) (by rw [hz2]; omega) (by omega)
    rw [Int.toNat_natCast] at h
    simpa [hz1, Value.cells] using h
  clear hr
  go_enter Try.func26, Try.ntmps26
  go_wp2
  go_loopw [12] (fun s wr => ∃ (i : Nat) (us : List Tr), s = .int .i64 (i : Int) ∧ i ≤ ws.length ∧ us.length = ws.length ∧ Hid ((rd us).take i = (numP ws).take i) ∧ Hid (Row wr w.heap.size 0 us) ∧ Hid (∀ t ∈ us, Ints wr wr.heap.size w.heap.size t.1 t.2.1) ∧ Below w.heap.size w wr ∧ Hid (Frs w.heap.size us)) (fun s _ => ws.length - (intOf s).toNat)
  case atStart =>
    refine ⟨0, List.replicate ws.length no, rfl, Nat.zero_le _, by simp, (by show _ = _; simp), row_made _ _, fun t ht => ?_, ba _ _, fun t ht hne => ?_⟩
    · rw [List.eq_of_mem_replicate ht]
      exact ints_nil _ _ _
    · rw [List.eq_of_mem_replicate ht] at hne
      exact absurd rfl hne
  case round =>
    obtain ⟨i, us, rfl, hit, hul, HT, HRow, HI, hbl, HFR⟩ := hrel
    have HU : Hid (us.length = ws.length) := hul
    by_cases h1 : i < ws.length
    · obtain ⟨b, o, c', x, he, _, hbB, hx, hcx⟩ := (HN.out.at hB hbl).get h1
      simp only [Value.slice.injEq] at he
      obtain ⟨rfl, -, rfl⟩ := he
      obtain ⟨t0, ht0⟩ := get_lt (l := us) (i := i) (by omega)
      have r1 := HRow.out.cells i t0 ht0
      have r2 := HRow.out.thaw (i * 2) (by omega)
      have r3 := HRow.out.thaw (i * 2 + 1) (by omega)
      have hlt := HRow.out.lt
      obtain ⟨r4, r5⟩ := r1
      simp only [Nat.zero_add] at r2 r3 r4 r5
      obtain ⟨v0, hv0⟩ : ∃ v0, t0.1 = v0 := ⟨_, rfl⟩
      rw [hv0] at r4
      have HX : Hid (ws[i]? = some x) := hx
      have hbB2 : b < wr.heap.size := by have := hbl.size; omega
      clear hul ht0 hv0 hx
      go_wp2
      go_roundw
      case rel =>
        obtain ⟨W, hW⟩ : ∃ W, (wr.setCell ⟨w.heap.size, i * 2, none⟩ (.slice (some ⟨wr.heap.size, 0, none⟩) 1 1)).setCell ⟨w.heap.size, i * 2 + 1, none⟩ (.int .i64 x) = W := ⟨_, rfl⟩
        have hWs : W.heap.size = wr.heap.size := by rw [← hW]; simp
        have hWR : Row W w.heap.size 0 (us.set i (.slice (some ⟨wr.heap.size, 0, none⟩) 1 1, [(i : Int)], x)) := by
          rw [← hW]; exact HRow.out.set0 (by rw [HU.out]; exact h1) (.slice (some ⟨wr.heap.size, 0, none⟩) 1 1) [(i : Int)] x
        have hWI : ∀ t ∈ us, Ints W W.heap.size w.heap.size t.1 t.2.1 := by
          intro t ht
          have := ((HI.out t ht).set (p := ⟨w.heap.size, i * 2, none⟩) rfl (.slice (some ⟨wr.heap.size, 0, none⟩) 1 1)).set (p := ⟨w.heap.size, i * 2 + 1, none⟩) rfl (.int .i64 x)
          rw [hW, ← hWs] at this
          exact this
        have hWB : Below w.heap.size w W := by rw [← hW]; exact bs (bs hbl (Nat.le_refl _) _) (Nat.le_refl _) _
        rw [hW]
        refine ⟨i + 1, us.set i (.slice (some ⟨wr.heap.size, 0, none⟩) 1 1, [(i : Int)], x), by go_num, h1, by simp [HU.out], ?_, hWR.keep (ba _ _), fun t ht => ?_, bal hWB _, fun t ht => ?_⟩
        · show _ = _
          rw [rd_set, take_set_succ _ (by rw [rd_len, HU.out]; exact h1), HT.out, List.take_add_one, num_take HX.out]; rfl
        · rcases List.mem_or_eq_of_mem_set ht with h | rfl
          · exact (hWI t h).at2 (ba _ _)
          · refine ⟨_, 1, rfl, Nat.le_refl _, by simp, fun _ => ⟨wr.heap.size, 0, rfl, by simp; omega, by omega, fun j z hj => ?_⟩⟩
            match j, hj with
            | 0, hj => simp at hj; subst hj; rw [← hWs]; simp [go_sem]
        · rcases List.mem_or_eq_of_mem_set ht with h | rfl
          · exact HFR.out t h
          · intro _ b o sp n c e
            simp only [Value.slice.injEq, Option.some.injEq, Addr.mk.injEq] at e
            have := hbl.size
            omega
      case measure => simp [intOf]; omega
    · have hii : i = ws.length := by omega
      have HD : Hid (rd us = numP ws) := by
        have := HT.out
        rw [List.take_of_length_le (by rw [rd_len]; omega), List.take_of_length_le (by rw [num_plen]; omega)] at this
        exact this
      have hpp : Parts wr wr.heap.size (.slice (some ⟨w.heap.size, 0, none⟩) ws.length ws.length) us := by
        have := Own.parts (w := wr) (lo := w.heap.size) (v := .slice (some ⟨w.heap.size, 0, none⟩) us.length us.length) (ts := us) ⟨w.heap.size, 0, us.length, rfl, Nat.le_refl _, by omega, Nat.le_refl _, HRow.out, HI.out⟩
        rw [hul] at this
        exact this
      have kc := make_fr wr.heap.size _ us wr (Nat.le_refl _) hpp l er (by rw [HD.out]; exact HR.out)
      clear hul hpp HD
      go_wp2_with fail
      refine kc.mono ?_
      rintro e w5 ⟨v5, xs, rfl, k1, k2, k3, k4⟩
      obtain ⟨b5, d5, rfl⟩ := k2.slice
      clear kc
      have hsz := hbl.size
      go_wp2
      exact bodyPost_ret (v := .tuple #[.slice b5 xs.length d5, .int .i64 er]) (by simp [results, Try.results26, go_sem]) rfl ⟨_, xs, rfl, k1, k2.mono hsz, bt hbl k3, k4.mono hsz⟩
end Go.Proofs.Ythmkbkombjhaeaa
