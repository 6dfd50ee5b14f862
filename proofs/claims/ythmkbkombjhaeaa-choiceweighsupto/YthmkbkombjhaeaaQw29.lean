import Derived.Test.YthmkbkombjhaeaaQw12
namespace Go.Proofs.Ythmkbkombjhaeaa
open Go.RowKit Go.Proofs.Ythmkbkombjhaeaa.Ds

/-- a product, up to the limit -/
def prdT (fs : List Int) : Int := fs.foldl (fun o x => lim (o * x)) 1
theorem prd_take {fs : List Int} {k : Nat} {x : Int} (h : fs[k]? = some x) : prdT (fs.take (k + 1)) = lim (prdT (fs.take k) * x) := by
  unfold prdT
  rw [List.take_add_one, h, List.foldl_append]
  rfl
/-- a factor -/
def Fac (x : Int) : Prop := 1 ≤ x ∧ x ≤ 1073741825
theorem prd_bd {fs : List Int} (h : ∀ x ∈ fs, Fac x) : Fac (prdT fs) := by
  have key : ∀ (fs : List Int) (o : Int), (∀ x ∈ fs, Fac x) → Fac o → Fac (fs.foldl (fun o x => lim (o * x)) o) := by
    intro fs
    induction fs with
    | nil => intro o _ h; exact h
    | cons a fs ih =>
      intro o h h1
      refine ih _ (fun x hx => h x (List.mem_cons_of_mem _ hx)) ?_
      have h2 := h a (List.mem_cons_self ..)
      have h3 := Int.mul_le_mul h1.1 h2.1 (by omega) (by have := h1.1; omega)
      have h4 := lim_bd (x := o * a) (by omega)
      exact ⟨h4.1, h4.2.1⟩
  exact key fs 1 h ⟨by omega, by omega⟩

set_option maxHeartbeats 400000 in
theorem product_any (B : Nat) (v : Value) (fs : List Int) (w : World) (h : Num w B v fs) (hf : ∀ x ∈ fs, Fac x) (r : Int) (hr : prdT fs = r) :
    Calls Try.prog 24 #[v] w fun e w' => e = .returned (.int .i64 r) ∧ w' = w := by
  have HN : Hid (Num w B v fs) := h
  have HR : Hid (prdT fs = r) := hr
  have HF : Hid (∀ x ∈ fs, Fac x) := hf
  obtain ⟨a, c, rfl, hc, hl, _⟩ := h
  clear hr hf
  go_enter Try.func24, Try.ntmps24
  go_wp2
  go_loop [3, 8] (fun m i => ∃ (k : Nat) (z : Int), k ≤ fs.length ∧ Hid (prdT (fs.take k) = z) ∧ m = .int .i64 z ∧ i = .int .i64 (k : Int)) (fun _ i => fs.length - (intOf i).toNat)
  case atStart => exact ⟨0, 1, Nat.zero_le _, rfl, rfl, rfl⟩
  case round =>
    obtain ⟨k, z, hk, HZ, rfl, rfl⟩ := hrel
    by_cases h1 : k < fs.length
    · obtain ⟨b, o, c', x, he, _, _, hx, hcx⟩ := HN.out.get h1
      simp only [Value.slice.injEq] at he
      obtain ⟨rfl, _, rfl⟩ := he
      have hz : Fac z := by rw [← HZ.out]; exact prd_bd fun x hx => HF.out x (List.mem_of_mem_take hx)
      have hx1 : Fac x := HF.out x (List.mem_of_getElem? hx)
      have HS : Hid (prdT (fs.take (k + 1)) = lim (z * x)) := by
        show _ = _
        rw [prd_take hx, HZ.out]
      obtain ⟨z1, z2⟩ := hz
      obtain ⟨x1, x2⟩ := hx1
      have b0 : 0 ≤ z * x := Int.mul_nonneg (by omega) (by omega)
      have b1 : z * x ≤ 1073741825 * 1073741825 := Int.mul_le_mul z2 x2 (by omega) (by omega)
      obtain ⟨P, hP⟩ : ∃ P, z * x = P := ⟨_, rfl⟩
      rw [hP] at HS
      rw [lim_min] at HS
      rw [hP] at b0 b1
      clear hx
      go_wp2
      go_round
      case rel => exact ⟨k + 1, min P 1073741825, h1, HS, by first | rfl | go_num | (congr 1; omega) | (rw [hP]; congr 1; omega), by go_num⟩
      case measure => simp [intOf]; omega
    · have : k = fs.length := by omega
      subst this
      have hz : z = r := by rw [← HR.out, ← HZ.out, List.take_length]
      subst hz
      clear HZ HR
      go_wp2
      go_ret
      exact ⟨rfl, rfl⟩

/-- two factors of one's own -/
theorem num_two (w : World) (x y : Int) : Num (w.alloc (.cells #[.int .i64 x, .int .i64 y] 3)) (w.heap.size + 1) (.slice (some ⟨w.heap.size, 0, none⟩) 2 2) [x, y] := by
  refine ⟨_, 2, rfl, Nat.le_refl _, by simp, fun _ => ⟨w.heap.size, 0, rfl, by omega, fun i z hi => ?_⟩⟩
  match i, hi with
  | 0, hi => simp at hi; subst hi; simp [go_sem]
  | 1, hi => simp at hi; subst hi; simp [go_sem]
theorem num_three (w : World) (x y z : Int) : Num (w.alloc (.cells #[.int .i64 x, .int .i64 y, .int .i64 z] 3)) (w.heap.size + 1) (.slice (some ⟨w.heap.size, 0, none⟩) 3 3) [x, y, z] := by
  refine ⟨_, 3, rfl, Nat.le_refl _, by simp, fun _ => ⟨w.heap.size, 0, rfl, by omega, fun i u hi => ?_⟩⟩
  match i, hi with
  | 0, hi => simp at hi; subst hi; simp [go_sem]
  | 1, hi => simp at hi; subst hi; simp [go_sem]
  | 2, hi => simp at hi; subst hi; simp [go_sem]

theorem pow_fac {x : Int} (h : 1 ≤ x) (n : Nat) : Fac (lim (x ^ n)) := by
  have := lim_bd (pow_pos' h n)
  exact ⟨this.1, this.2.1⟩
theorem prd_two {a b : Int} (ha : Fac a) : prdT [a, b] = lim (a * b) := by
  show lim (lim (1 * a) * b) = _
  have : lim (1 * a) = a := by rw [lim_min]; have := ha.2; omega
  rw [this]
theorem prd_three {a b c : Int} (ha : Fac a) : prdT [a, b, c] = lim (lim (a * b) * c) := by
  show lim (lim (lim (1 * a) * b) * c) = _
  have : lim (1 * a) = a := by rw [lim_min]; have := ha.2; omega
  rw [this]

set_option maxHeartbeats 400000 in
theorem cpow_any (x : Int) (n : Nat) (hn : n ≤ 4096) (hx : 1 ≤ x) (h : x ≤ 1073741824) (r : Int) (hr : lim (x ^ n) = r) (w : World) :
    Calls Try.prog 25 #[.int .i64 x, .int .i64 (n : Int)] w fun e w' => e = .returned (.int .i64 r) ∧ Below w.heap.size w w' := by
  have HR : Hid (lim (x ^ n) = r) := hr
  clear hr
  go_enter Try.func25, Try.ntmps25
  go_wp2
  go_loopw [5, 7] (fun m i wr => ∃ (k : Nat) (z : Int), k ≤ n ∧ Hid (lim (x ^ k) = z) ∧ m = .int .i64 z ∧ i = .int .i64 (k : Int) ∧ Below w.heap.size w wr) (fun _ i _ => n - (intOf i).toNat)
  case atStart => exact ⟨0, 1, Nat.zero_le _, (by show lim (x ^ 0) = 1; rw [Int.pow_zero]; rfl), rfl, rfl, Below.refl _ _⟩
  case round =>
    obtain ⟨k, z, hk, HZ, rfl, rfl, hb⟩ := hrel
    by_cases h1 : k < n
    · have HS : Hid (lim (x ^ (k + 1)) = prdT [z, x]) := by
        show _ = _
        have hf := pow_fac hx k
        rw [HZ.out] at hf
        rw [prd_two hf, ← HZ.out, lim_mul hx, Int.pow_succ]
      obtain ⟨s, hs⟩ : ∃ s, prdT [z, x] = s := ⟨_, rfl⟩
      rw [hs] at HS
      have kc := product_any (wr.heap.size + 1) _ [z, x] _ (num_two wr z x) (by
        intro y hy
        simp at hy
        rcases hy with rfl | rfl
        · have := pow_fac hx k; rw [HZ.out] at this; exact this
        · exact ⟨hx, by omega⟩) s hs
      clear hs
      go_wp2_with fail
      refine kc.mono ?_
      rintro e w1 ⟨rfl, rfl⟩
      clear kc
      go_wp2
      go_roundw
      case rel => exact ⟨k + 1, s, h1, HS, rfl, by go_num, bal hb _⟩
      case measure => simp [intOf]; omega
    · have : k = n := by omega
      subst this
      have hz : z = r := by rw [← HR.out, ← HZ.out]
      subst hz
      clear HZ HR
      go_wp2
      go_ret
      exact ⟨rfl, hb⟩
end Go.Proofs.Ythmkbkombjhaeaa

namespace Go.Proofs.Ythmkbkombjhaeaa
open Go.RowKit Go.Proofs.Ythmkbkombjhaeaa.Ds

/-- whole numbers as numbers -/
def asI (s : List Nat) : List Int := s.map fun (n : Nat) => ((n : Nat) : Int)
theorem asI_len (s : List Nat) : (asI s).length = s.length := by simp [asI]
theorem farI_as (l : List Int) : farI l = asI (belT l) := by
  unfold farI belT asI
  rw [List.map_map]
  refine List.map_congr_left fun n hn => ?_
  have := mxI_le hn
  simp
  omega

set_option maxHeartbeats 1000000 in
set_option maxRecDepth 100000 in
theorem ways_any (B : Nat) (u d : Int) (hu : 1 ≤ u) (hu2 : u ≤ 1073741824) (v : Value) (s : List Nat) (hs : s.length ≤ 8) (hm : ∀ m ∈ s, m ≤ 64) (w : World) (h : Num w B v (asI s)) (hB : B ≤ w.heap.size) (r : Int) (hr : lim (wayN u s s.length) = r) :
    Calls Try.prog 31 #[.agg #[.int .i64 u, .int .i64 d, v]] w fun e w' => e = .returned (.int .i64 r) ∧ Below w.heap.size w w' := by
  have HN : Hid (Num w B v (asI s)) := h
  have HR : Hid (lim (wayN u s s.length) = r) := hr
  have HM : Hid (∀ m ∈ s, m ≤ 64) := hm
  obtain ⟨a, c, rfl, hc, hl, _⟩ := h
  rw [asI_len]
  have HNl : Hid (Num w B (.slice a s.length c) (asI s)) := by have := HN.out; rwa [asI_len] at this
  rw [asI_len] at hc hl
  clear hr hm HN
  go_enter Try.func31, Try.ntmps31
  go_wp2
  obtain ⟨w1, hw1⟩ : ∃ w1, w.alloc (.cells #[.int .i64 u, .int .i64 d, .slice a s.length c] 47) = w1 := ⟨_, rfl⟩
  have HB1 : Hid (Below w.heap.size w w1) := hw1 ▸ ba _ _
  have k0 : w1.cell? ⟨w.heap.size, 0, none⟩ = some (.int .i64 u) := by rw [← hw1]; simp [go_sem]
  have k1 : w.heap.size < w1.heap.size := by rw [← hw1]; simp
  rw [hw1]
  clear hw1
  go_loopw [3, 9] (fun m i wr => ∃ (k : Nat) (z : Int), k ≤ s.length ∧ Hid (lim (wayN u s k) = z) ∧ m = .int .i64 z ∧ i = .int .i64 (k : Int) ∧ Below w1.heap.size w1 wr) (fun _ i _ => s.length - (intOf i).toNat)
  case atStart => exact ⟨0, 1, Nat.zero_le _, (by show _ = _; rw [way_zero]; rfl), rfl, rfl, Below.refl _ _⟩
  case round =>
    obtain ⟨k, z, hk, HZ, rfl, rfl, hbl⟩ := hrel
    by_cases h1 : k < s.length
    · obtain ⟨b, o, c', x, he, _, hbB, hx, hcx⟩ := (HNl.out.at hB (bt HB1.out hbl)).get (i := k) (by rw [asI_len]; exact h1)
      simp only [Value.slice.injEq] at he
      obtain ⟨rfl, -, rfl⟩ := he
      obtain ⟨mk, hmk⟩ := get_lt h1
      have hx2 : x = ((mk : Nat) : Int) := by simp [asI, hmk] at hx; exact hx.symm
      subst hx2
      have hmk64 := HM.out mk (List.mem_of_getElem? hmk)
      have egk : s.getD k 0 = mk := by simp [List.getD, hmk]
      have hzf : Fac z := by
        have := lim_bd (way_pos hu s k)
        rw [HZ.out] at this
        exact ⟨this.1, this.2.1⟩
      obtain ⟨P, hP⟩ : ∃ P, lim (u ^ mk) = P := ⟨_, rfl⟩
      have hPf : Fac P := hP ▸ pow_fac hu mk
      have kp := fun W => cpow_any u mk (by omega) hu hu2 P hP W
      obtain ⟨S, hS⟩ : ∃ S, prdT [z, (k : Int) + 1, P] = S := ⟨_, rfl⟩
      have HS : Hid (lim (wayN u s (k + 1)) = S) := by
        show _ = _
        rw [← hS, prd_three hzf, ← way_step hu, HZ.out, egk, hP]
      have kq := fun (W : World) => product_any (W.heap.size + 1) _ [z, (k : Int) + 1, P] _ (num_three W z ((k : Int) + 1) P) (by
        intro y hy
        simp at hy
        rcases hy with rfl | rfl | rfl
        · exact hzf
        · exact ⟨by omega, by omega⟩
        · exact hPf) S hS
      have j0 : wr.cell? ⟨w.heap.size, 0, none⟩ = some (.int .i64 u) := (hbl.cell (p := ⟨w.heap.size, 0, none⟩) k1).trans k0
      have hsz := hbl.size
      obtain ⟨z1, z2⟩ := hzf
      clear hx hmk egk hP hS HZ hPf
      go_wp2_with fail
      refine (kp _).mono ?_
      rintro e w2 ⟨rfl, hb2⟩
      clear kp
      have hb3 := bt hbl hb2
      go_wp2_with fail
      refine (kq _).mono ?_
      rintro e w3 ⟨rfl, rfl⟩
      clear kq
      go_wp2
      go_roundw
      case rel => exact ⟨k + 1, S, h1, HS, rfl, by go_num, bal hb3 _⟩
      case measure => simp [intOf]; omega
    · have : k = s.length := by omega
      subst this
      have hz : z = r := by rw [← HR.out, ← HZ.out]
      subst hz
      clear HZ HR
      go_wp2
      go_ret
      exact ⟨rfl, bt HB1.out hbl⟩
end Go.Proofs.Ythmkbkombjhaeaa
