import Derived.Test.YthmkbkombjhaeaaQk31
import Derived.Test.YthmkbkombjhaeaaQk12
import Derived.Test.YthmkbkombjhaeaaQk34
namespace Go.Proofs.Ythmkbkombjhaeaa
open Go.RowKit Go.Proofs.Ythmkbkombjhaeaa.Ds

/-- numbers of some weights, as far as one has come -/
def numP (ws : List Int) : List Pt := (List.range ws.length).map fun (i : Nat) => ([(i : Int)], ws.getD i 0)
theorem num_take {ws : List Int} {i : Nat} {x : Int} (h : ws[i]? = some x) : (numP ws)[i]? = some ([(i : Int)], x) := by
  have hi := (List.getElem?_eq_some_iff.1 h).1
  have e : ws[i] = x := (List.getElem?_eq_some_iff.1 h).2
  simp [numP, hi, List.getD, e]
theorem num_plen (ws : List Int) : (numP ws).length = ws.length := by simp [numP]

set_option maxHeartbeats 1000000 in
set_option maxRecDepth 100000 in
theorem numbered_fr (B : Nat) (v : Value) (ws : List Int) (w : World) (h : Num w B v ws) (hB : B ≤ w.heap.size) (hl8 : ws.length ≤ 8) (l : List Pt) (er : Int) (hr : makeT (numP ws) = (l, er)) :
    Calls Try.prog 26 #[v] w fun e w' => ∃ v' us, e = .returned (.tuple #[v', .int .i64 er]) ∧ rd us = l ∧ OwnN w' w.heap.size v' us ∧ Below w.heap.size w w' ∧ Frs w.heap.size us := by
  have HN : Hid (Num w B v ws) := h
  have HR : Hid (makeT (numP ws) = (l, er)) := hr
  obtain ⟨a, c, rfl, hc, hl, _⟩ := h
  obtain ⟨i0, hi, hz0, hz1, hz2⟩ := info_parts info32
  have hmk : ∀ u : World, (Instr.makeSlice 25 (.int .i64 (ws.length : Int)) (.int .i64 (ws.length : Int))).run Try.prog u =
      .ok (.slice (some ⟨u.heap.size, 0, none⟩) ws.length ws.length) (u.alloc (.cells (madeCells #[.slice none 0 0, .int .i64 0] (ws.length * 2)) 55)) := fun u => by
    have h := run_make (P := Try.prog) u 25 55 i0 (.agg #[.slice none 0 0, .int .i64 0]) Try.underlying25 hi hz0 .i64 .i64 (ws.length : Int) (ws.length : Int) (by omega) (Int.le_refl _) (by rw [hz2]; omega) (by omega)
    rw [Int.toNat_natCast] at h
    simpa [hz1, Value.cells] using h
  clear hr
  go_enter Try.func26, Try.ntmps26
  go_wp2
  go_loopw [12] (fun s wr => ∃ (i : Nat) (us : List Tr), s = .int .i64 (i : Int) ∧ i ≤ ws.length ∧ us.length = ws.length ∧ Hid ((rd us).take i = (numP ws).take i) ∧ Hid (Row wr w.heap.size 0 us) ∧ Hid (∀ t ∈ us, Ints wr wr.heap.size w.heap.size t.1 t.2.1) ∧ Below w.heap.size w wr ∧ Hid (Frs w.heap.size us)) (fun s _ => ws.length - (intOf s).toNat)
  case atStart =>
    refine ⟨0, List.replicate ws.length no, rfl, Nat.zero_le _, by simp, (by show _ = _; simp), row_made _ _, fun t ht => ?_, ba _ _, fun t ht hne => ?_⟩
    · rw [List.eq_of_mem_replicate ht]
      exact ints_nil _ _ _
    · rw [List.eq_of_mem_replicate ht] at hne
      exact absurd rfl hne
  case round =>
    obtain ⟨i, us, rfl, hit, hul, HT, HRow, HI, hbl, HFR⟩ := hrel
    have HU : Hid (us.length = ws.length) := hul
    by_cases h1 : i < ws.length
    · obtain ⟨b, o, c', x, he, _, hbB, hx, hcx⟩ := (HN.out.at hB hbl).get h1
      simp only [Value.slice.injEq] at he
      obtain ⟨rfl, -, rfl⟩ := he
      obtain ⟨t0, ht0⟩ := get_lt (l := us) (i := i) (by omega)
      have r1 := HRow.out.cells i t0 ht0
      have r2 := HRow.out.thaw (i * 2) (by omega)
      have r3 := HRow.out.thaw (i * 2 + 1) (by omega)
      have hlt := HRow.out.lt
      obtain ⟨r4, r5⟩ := r1
      simp only [Nat.zero_add] at r2 r3 r4 r5
      obtain ⟨v0, hv0⟩ : ∃ v0, t0.1 = v0 := ⟨_, rfl⟩
      rw [hv0] at r4
      have HX : Hid (ws[i]? = some x) := hx
      have hbB2 : b < wr.heap.size := by have := hbl.size; omega
      clear hul ht0 hv0 hx
      go_wp2
      go_roundw
      case rel =>
        obtain ⟨W, hW⟩ : ∃ W, (wr.setCell ⟨w.heap.size, i * 2, none⟩ (.slice (some ⟨wr.heap.size, 0, none⟩) 1 1)).setCell ⟨w.heap.size, i * 2 + 1, none⟩ (.int .i64 x) = W := ⟨_, rfl⟩
        have hWs : W.heap.size = wr.heap.size := by rw [← hW]; simp
        have hWR : Row W w.heap.size 0 (us.set i (.slice (some ⟨wr.heap.size, 0, none⟩) 1 1, [(i : Int)], x)) := by
          rw [← hW]; exact HRow.out.set0 (by rw [HU.out]; exact h1) (.slice (some ⟨wr.heap.size, 0, none⟩) 1 1) [(i : Int)] x
        have hWI : ∀ t ∈ us, Ints W W.heap.size w.heap.size t.1 t.2.1 := by
          intro t ht
          have := ((HI.out t ht).set (p := ⟨w.heap.size, i * 2, none⟩) rfl (.slice (some ⟨wr.heap.size, 0, none⟩) 1 1)).set (p := ⟨w.heap.size, i * 2 + 1, none⟩) rfl (.int .i64 x)
          rw [hW, ← hWs] at this
          exact this
        have hWB : Below w.heap.size w W := by rw [← hW]; exact bs (bs hbl (Nat.le_refl _) _) (Nat.le_refl _) _
        rw [hW]
        refine ⟨i + 1, us.set i (.slice (some ⟨wr.heap.size, 0, none⟩) 1 1, [(i : Int)], x), by go_num, h1, by simp [HU.out], ?_, hWR.keep (ba _ _), fun t ht => ?_, bal hWB _, fun t ht => ?_⟩
        · show _ = _
          rw [rd_set, take_set_succ _ (by rw [rd_len, HU.out]; exact h1), HT.out, List.take_add_one, num_take HX.out]; rfl
        · rcases List.mem_or_eq_of_mem_set ht with h | rfl
          · exact (hWI t h).at2 (ba _ _)
          · refine ⟨_, 1, rfl, Nat.le_refl _, by simp, fun _ => ⟨wr.heap.size, 0, rfl, by simp; omega, by omega, fun j z hj => ?_⟩⟩
            match j, hj with
            | 0, hj => simp at hj; subst hj; rw [← hWs]; simp [go_sem]
        · rcases List.mem_or_eq_of_mem_set ht with h | rfl
          · exact HFR.out t h
          · intro _ b o sp n c e
            simp only [Value.slice.injEq, Option.some.injEq, Addr.mk.injEq] at e
            have := hbl.size
            omega
      case measure => simp [intOf]; omega
    · have hii : i = ws.length := by omega
      have HD : Hid (rd us = numP ws) := by
        have := HT.out
        rw [List.take_of_length_le (by rw [rd_len]; omega), List.take_of_length_le (by rw [num_plen]; omega)] at this
        exact this
      have hpp : Parts wr wr.heap.size (.slice (some ⟨w.heap.size, 0, none⟩) ws.length ws.length) us := by
        have := Own.parts (w := wr) (lo := w.heap.size) (v := .slice (some ⟨w.heap.size, 0, none⟩) us.length us.length) (ts := us) ⟨w.heap.size, 0, us.length, rfl, Nat.le_refl _, by omega, Nat.le_refl _, HRow.out, HI.out⟩
        rw [hul] at this
        exact this
      have kc := make_fr wr.heap.size _ us wr (Nat.le_refl _) hpp l er (by rw [HD.out]; exact HR.out)
      clear hul hpp HD
      go_wp2_with fail
      refine kc.mono ?_
      rintro e w5 ⟨v5, xs, rfl, k1, k2, k3, k4⟩
      obtain ⟨b5, d5, rfl⟩ := k2.slice
      clear kc
      have hsz := hbl.size
      go_wp2
      exact bodyPost_ret (v := .tuple #[.slice b5 xs.length d5, .int .i64 er]) (by simp [results, Try.results26, go_sem]) rfl ⟨_, xs, rfl, k1, k2.mono hsz, bt hbl k3, k4.mono hsz⟩
end Go.Proofs.Ythmkbkombjhaeaa

namespace Go.Proofs.Ythmkbkombjhaeaa
open Go.RowKit Go.Proofs.Ythmkbkombjhaeaa.Ds

/-- whole numbers as numbers -/
def asI (s : List Nat) : List Int := s.map fun (n : Nat) => ((n : Nat) : Int)
theorem asI_len (s : List Nat) : (asI s).length = s.length := by simp [asI]
theorem farI_as (l : List Int) : farI l = asI (belT l) := by
  unfold farI belT asI
  rw [List.map_map]
  refine List.map_congr_left fun n hn => ?_
  have := mxI_le hn
  simp
  omega

set_option maxHeartbeats 1000000 in
set_option maxRecDepth 100000 in
theorem ways_any (B : Nat) (u d : Int) (hu : 1 ≤ u) (hu2 : u ≤ 1073741824) (v : Value) (s : List Nat) (hs : s.length ≤ 8) (hm : ∀ m ∈ s, m ≤ 64) (w : World) (h : Num w B v (asI s)) (hB : B ≤ w.heap.size) (r : Int) (hr : lim (wayN u s s.length) = r) :
    Calls Try.prog 31 #[.agg #[.int .i64 u, .int .i64 d, v]] w fun e w' => e = .returned (.int .i64 r) ∧ Below w.heap.size w w' := by
  have HN : Hid (Num w B v (asI s)) := h
  have HR : Hid (lim (wayN u s s.length) = r) := hr
  have HM : Hid (∀ m ∈ s, m ≤ 64) := hm
  obtain ⟨a, c, rfl, hc, hl, _⟩ := h
  rw [asI_len]
  have HNl : Hid (Num w B (.slice a s.length c) (asI s)) := by have := HN.out; rwa [asI_len] at this
  rw [asI_len] at hc hl
  clear hr hm HN
  go_enter Try.func31, Try.ntmps31
  go_wp2
  obtain ⟨w1, hw1⟩ : ∃ w1, w.alloc (.cells #[.int .i64 u, .int .i64 d, .slice a s.length c] 47) = w1 := ⟨_, rfl⟩
  have HB1 : Hid (Below w.heap.size w w1) := hw1 ▸ ba _ _
  have k0 : w1.cell? ⟨w.heap.size, 0, none⟩ = some (.int .i64 u) := by rw [← hw1]; simp [go_sem]
  have k1 : w.heap.size < w1.heap.size := by rw [← hw1]; simp
  rw [hw1]
  clear hw1
  go_loopw [3, 9] (fun m i wr => ∃ (k : Nat) (z : Int), k ≤ s.length ∧ Hid (lim (wayN u s k) = z) ∧ m = .int .i64 z ∧ i = .int .i64 (k : Int) ∧ Below w1.heap.size w1 wr) (fun _ i _ => s.length - (intOf i).toNat)
  case atStart => exact ⟨0, 1, Nat.zero_le _, (by show _ = _; rw [way_zero]; rfl), rfl, rfl, Below.refl _ _⟩
  case round =>
    obtain ⟨k, z, hk, HZ, rfl, rfl, hbl⟩ := hrel
    by_cases h1 : k < s.length
    · obtain ⟨b, o, c', x, he, _, hbB, hx, hcx⟩ := (HNl.out.at hB (bt HB1.out hbl)).get (i := k) (by rw [asI_len]; exact h1)
      simp only [Value.slice.injEq] at he
      obtain ⟨rfl, -, rfl⟩ := he
      obtain ⟨mk, hmk⟩ := get_lt h1
      have hx2 : x = ((mk : Nat) : Int) := by simp [asI, hmk] at hx; exact hx.symm
      subst hx2
      have hmk64 := HM.out mk (List.mem_of_getElem? hmk)
      have egk : s.getD k 0 = mk := by simp [List.getD, hmk]
      have hzf : Fac z := by
        have := lim_bd (way_pos hu s k)
        rw [HZ.out] at this
        exact ⟨this.1, this.2.1⟩
      obtain ⟨P, hP⟩ : ∃ P, lim (u ^ mk) = P := ⟨_, rfl⟩
      have hPf : Fac P := hP ▸ pow_fac hu mk
      have kp := fun W => cpow_any u mk (by omega) hu hu2 P hP W
      obtain ⟨S, hS⟩ : ∃ S, prdT [z, (k : Int) + 1, P] = S := ⟨_, rfl⟩
      have HS : Hid (lim (wayN u s (k + 1)) = S) := by
        show _ = _
        rw [← hS, prd_three hzf, ← way_step hu, HZ.out, egk, hP]
      have kq := fun (W : World) => product_any (W.heap.size + 1) _ [z, (k : Int) + 1, P] _ (num_three W z ((k : Int) + 1) P) (by
        intro y hy
        simp at hy
        rcases hy with rfl | rfl | rfl
        · exact hzf
        · exact ⟨by omega, by omega⟩
        · exact hPf) S hS
      have j0 : wr.cell? ⟨w.heap.size, 0, none⟩ = some (.int .i64 u) := (hbl.cell (p := ⟨w.heap.size, 0, none⟩) k1).trans k0
      have hsz := hbl.size
      obtain ⟨z1, z2⟩ := hzf
      clear hx hmk egk hP hS HZ hPf
      go_wp2_with fail
      refine (kp _).mono ?_
      rintro e w2 ⟨rfl, hb2⟩
      clear kp
      have hb3 := bt hbl hb2
      go_wp2_with fail
      refine (kq _).mono ?_
      rintro e w3 ⟨rfl, rfl⟩
      clear kq
      go_wp2
      go_roundw
      case rel => exact ⟨k + 1, S, h1, HS, rfl, by go_num, bal hb3 _⟩
      case measure => simp [intOf]; omega
    · have : k = s.length := by omega
      subst this
      have hz : z = r := by rw [← HR.out, ← HZ.out]
      subst hz
      clear HZ HR
      go_wp2
      go_ret
      exact ⟨rfl, bt HB1.out hbl⟩
end Go.Proofs.Ythmkbkombjhaeaa
