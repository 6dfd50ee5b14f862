import Derived.Test.YthmkbkombjhaeaaQw22
namespace Go.Proofs.Ythmkbkombjhaeaa
open Go.RowKit Go.Proofs.Ythmkbkombjhaeaa.Ds

/-- whole numbers as numbers -/
def asI (s : List Nat) : List Int := s.map fun (n : Nat) => ((n : Nat) : Int)
theorem asI_len (s : List Nat) : (asI s).length = s.length := by simp [asI]
theorem farI_as (l : List Int) : farI l = asI (belT l) := by
  unfold farI belT asI
  rw [List.map_map]
  refine List.map_congr_left fun n hn => ?_
  have := mxI_le hn
  simp
  omega

set_option maxHeartbeats 1000000 in
set_option maxRecDepth 100000 in
theorem ways_any (B : Nat) (u d : Int) (hu : 1 ≤ u) (hu2 : u ≤ 1073741824) (v : Value) (s : List Nat) (hs : s.length ≤ 8) (hm : ∀ m ∈ s, m ≤ 64) (w : World) (h : Num w B v (asI s)) (hB : B ≤ w.heap.size) (r : Int) (hr : lim (wayN u s s.length) = r) :
    Calls Try.prog 31 #[.agg #[.int .i64 u, .int .i64 d, v]] w fun e w' => e = .returned (.int .i64 r) ∧ Below w.heap.size w w' := by
  have HN : Hid (Num w B v (asI s)) := h
  have HR : Hid (lim (wayN u s s.length) = r) := hr
  have HM : Hid (∀ m ∈ s, m ≤ 64) := hm
  obtain ⟨a, c, rfl, hc, hl, _⟩ := h
  rw [asI_len]
  have HNl : Hid (Num w B (.slice a s.length c) (asI s)) := by have := HN.out; rwa [asI_len] at this
  rw [asI_len] at hc hl
  clear hr hm HN
  go_enter Try.func31, Try.ntmps31
  go_wp2
  obtain ⟨w1, hw1⟩ : ∃ w1, w.alloc (.cells #[.int .i64 u, .int .i64 d, .slice a s.length c] 47) = w1 := ⟨_, rfl⟩
  have HB1 : Hid (Below w.heap.size w w1) := hw1 ▸ ba _ _
  have k0 : w1.cell? ⟨w.heap.size, 0, none⟩ = some (.int .i64 u) := by rw [← hw1]; simp [go_sem]
  have k1 : w.heap.size < w1.heap.size := by rw [← hw1]; simp
  rw [hw1]
  clear hw1
  go_loopw [3, 9] (fun m i wr => ∃ (k : Nat) (z : Int), k ≤ s.length ∧ Hid (lim (wayN u s k) = z) ∧ m = .int .i64 z ∧ i = .int .i64 (k : Int) ∧ Below w1.heap.size w1 wr) (fun _ i _ => s.length - (intOf i).toNat)
  case atStart => exact ⟨0, 1, Nat.zero_le _, (by show _ = _; rw [way_zero]; rfl), rfl, rfl, Below.refl _ _⟩
  case round =>
    obtain ⟨k, z, hk, HZ, rfl, rfl, hbl⟩ := hrel
    by_cases h1 : k < s.length
    · obtain ⟨b, o, c', x, he, _, hbB, hx, hcx⟩ := (HNl.out.at hB (bt HB1.out hbl)).get (i := k) (by rw [asI_len]; exact h1)
      simp only [Value.slice.injEq] at he
      obtain ⟨rfl, -, rfl⟩ := he
      obtain ⟨mk, hmk⟩ := get_lt h1
      have hx2 : x = ((mk : Nat) : Int) := by simp [asI, hmk] at hx; exact hx.symm
      subst hx2
      have hmk64 := HM.out mk (List.mem_of_getElem? hmk)
      have egk : s.getD k 0 = mk := by simp [List.getD, hmk]
      have hzf : Fac z := by
        have := lim_bd (way_pos hu s k)
        rw [HZ.out] at this
        exact ⟨this.1, this.2.1⟩
      obtain ⟨P, hP⟩ : ∃ P, lim (u ^ mk) = P := ⟨_, rfl⟩
      have hPf : Fac P := hP ▸ pow_fac hu mk
      have kp := fun W => cpow_any u mk (by omega) hu hu2 P hP W
      obtain ⟨S, hS⟩ : ∃ S, prdT [z, (k : Int) + 1, P] = S := ⟨_, rfl⟩
      have HS : Hid (lim (wayN u s (k + 1)) = S) := by
        show _ = _
        rw [← hS, prd_three hzf, ← way_step hu, HZ.out, egk, hP]
      have kq := fun (W : World) => product_any (W.heap.size + 1) _ [z, (k : Int) + 1, P] _ (num_three W z ((k : Int) + 1) P) (by
        intro y hy
        simp at hy
        rcases hy with rfl | rfl | rfl
        · exact hzf
        · exact ⟨by omega, by omega⟩
        · exact hPf) S hS
      have j0 : wr.cell? ⟨w.heap.size, 0, none⟩ = some (.int .i64 u) := (hbl.cell (p := ⟨w.heap.size, 0, none⟩) k1).trans k0
      have hsz := hbl.size
      obtain ⟨z1, z2⟩ := hzf
      clear hx hmk egk hP hS HZ hPf
      go_wp2_with fail
      refine (kp _).mono ?_
      rintro e w2 ⟨rfl, hb2⟩
      clear kp
      have hb3 := bt hbl hb2
      go_wp2_with fail
      refine (kq _).mono ?_
      rintro e w3 ⟨rfl, rfl⟩
      clear kq
      go_wp2
      go_roundw
      case rel => exact ⟨k + 1, S, h1, HS, rfl, by go_num, bal hb3 _⟩
      case measure => simp [intOf]; omega
    · have : k = s.length := by omega
      subst this
      have hz : z = r := by rw [← HR.out, ← HZ.out]
      subst hz
      clear HZ HR
      go_wp2
      go_ret
      exact ⟨rfl, bt HB1.out hbl⟩
end Go.Proofs.Ythmkbkombjhaeaa
