import Derived.Test.YtgfndaiilhbkmaaMul
import Derived.Test.YtgfndaiilhbkmaaSms
namespace Go.Proofs.Ytgfndaiilhbkmaa
open Go.RowKit Go.Proofs.Ytgfndaiilhbkmaa.Ds

/-- the first n are 1 -/
def onz (n i : Nat) : Int := if i < n then 1 else 0
theorem Arr.copy2 {V : World} {g n off b o dl sl sc dc k : Nat} {f F : Nat → Int} {xs : List Int} (hA : Arr V g n f) (hx : ∀ j x, xs[j]? = some x → V.cell? ⟨b, o + j, none⟩ = some (.int .i64 x)) (hk : xs.length = k) (hm : k = Nat.min sl dl) (hfit : off + k ≤ n) (hF1 : ∀ i, i < n → ¬ (off ≤ i ∧ i < off + k) → f i = F i) (hF2 : ∀ j x, xs[j]? = some x → F (off + j) = x) :
    ∃ V', (∀ ty, (Builtin.copy_ #[22, 22] ty #[.slice (some ⟨g, off, none⟩) dl dc, .slice (some ⟨b, o, none⟩) sl sc]).run Try.prog V = .ok (goInt k) V') ∧ Arr V' g n F ∧ V.grownBy V' (some g) := by
  subst hk
  have hcs : ∀ j u, (xs.map (Value.int .i64))[j]? = some u → V.cell? ((⟨b, o, none⟩ : Addr).add j) = some u := by
    intro j u hj
    have hlt : j < xs.length := by have := (List.getElem?_eq_some_iff.1 hj).1; simpa using this
    obtain ⟨x, hx1⟩ := get_lt hlt
    rw [Addr.add_lit, hx j x hx1]
    simpa [hx1] using hj
  refine ⟨V.setCells g off (xs.map (Value.int .i64)), fun ty => ?_, ⟨fun i hi => ?_, fun i hi => ?_, ?_⟩, cpy_gb _ _ _ _⟩
  · obtain ⟨i0, hi0, hz0, hz1, hz2⟩ := info_parts infoI
    have h := run_copy_cells (P := Try.prog) V 22 22 ty 3 g off dl dc ⟨b, o, none⟩ sl sc (xs.map (Value.int .i64)) Try.underlying22 (by rw [hi0]; simp [hz1]) (by simpa using hm) hcs
      (fun j hj => by rw [hA.cells (off + j) (by simp at hj; omega)]; rfl) (fun j hj => hA.thaw (off + j) (by simp at hj; omega)) (by intro v hv; obtain ⟨x, _, rfl⟩ := List.mem_map.1 hv; rfl)
    simpa using h
  · by_cases h1 : off ≤ i ∧ i < off + xs.length
    · obtain ⟨j, rfl⟩ : ∃ j, i = off + j := ⟨i - off, by omega⟩
      obtain ⟨x, hx1⟩ := get_lt (l := xs) (i := j) (by omega)
      have h2 := World.cell?_setCells_in g (xs.map (Value.int .i64)) off V (fun k hk => by rw [hA.cells (off + k) (by simp at hk; omega)]; rfl) j (by simp; omega)
      rw [h2, hF2 j x hx1]
      simp [(List.getElem?_eq_some_iff.1 hx1).2]
    · rw [World.cell?_setCells_out g _ _ _ _ (fun _ _ => by simp; omega), hA.cells i hi, hF1 i hi h1]
  · rw [World.frozen?_setCells]; exact hA.thaw i hi
  · rw [cpy_size]; exact hA.lt
theorem rep_copy {V : World} {g q n r k : Nat} (hA : Arr V g q (onz n)) (hr : q - n = r) (hk : k = Nat.min n r) (hn : n < q) :
    ∃ V', (∀ ty, (Builtin.copy_ #[22, 22] ty #[.slice (some ⟨g, n, none⟩) r r, .slice (some ⟨g, 0, none⟩) n q]).run Try.prog V = .ok (goInt k) V') ∧ Arr V' g q (onz (n + k)) ∧ V.grownBy V' (some g) := by
  have hkn : k ≤ n ∧ k ≤ r := by rw [hk]; exact ⟨Nat.min_le_left _ _, Nat.min_le_right _ _⟩
  refine hA.copy2 (xs := List.replicate k 1) (fun j x hj => ?_) (by simp) hk (by omega) (fun i hi hni => ?_) (fun j x hj => ?_)
  · have hlt : j < k := by have := (List.getElem?_eq_some_iff.1 hj).1; simpa using this
    simp [hlt] at hj
    rw [Nat.zero_add, hA.cells j (by omega), onz, if_pos (by omega), hj]
  · unfold onz
    by_cases c : i < n
    · rw [if_pos c, if_pos (by omega)]
    · rw [if_neg c, if_neg (by omega)]
  · have hlt : j < k := by have := (List.getElem?_eq_some_iff.1 hj).1; simpa using this
    simp [hlt] at hj
    rw [onz, if_pos (by omega), hj]

set_option maxRecDepth 100000 in
set_option maxHeartbeats 4000000 in
theorem repeat_any (b q : Nat) (hq1 : 1 ≤ q) (hq : q ≤ 1024) (W : World) (hb : W.cell? ⟨b, 0, none⟩ = some (.int .i64 1)) (hbl : b < W.heap.size) :
    Calls Try.prog 34 #[.slice (some ⟨b, 0, none⟩) 1 1, .int .i64 (q : Int)] W fun e W' => ∃ g, e = .returned (.slice (some ⟨g, 0, none⟩) q q) ∧ W.heap.size ≤ g ∧ Arr W' g q (fun _ => 1) ∧ Below W.heap.size W W' := by
  have km := mul_any q hq W
  have hmk := make_ints q (by omega)
  have z0 : ¬ (q : Int) < 0 := by omega
  go_enter Try.func34, Try.ntmps34
  go_wp2_with fail
  refine km.mono ?_
  rintro e1 w1 ⟨rfl, hw1⟩
  have hwy := hw1.symm
  subst hwy
  clear km hw1
  obtain ⟨Y, hY⟩ : ∃ Y, W.alloc (.cells (madeCells #[.int .i64 0] q) 3) = Y := ⟨_, rfl⟩
  have bY : Below W.heap.size W Y := by rw [← hY]; exact ba _ _
  have aY : Arr Y W.heap.size q (fun _ => 0) := by rw [← hY]; exact Arr.made _ _ _ rfl
  obtain ⟨w2, hcp, hA2, hg2⟩ := aY.copy2 (off := 0) (F := onz 1) (b := b) (o := 0) (dl := q) (sl := 1) (sc := 1) (dc := q) (k := 1) (xs := [1]) (fun j x hj => by
    match j, hj with
    | 0, hj =>
      simp at hj
      subst hj
      rw [Nat.zero_add]
      exact (bY.cell (p := ⟨b, 0, none⟩) hbl).trans hb) rfl (by simp [Nat.min_def]; omega) (by omega) (fun i _ hni => by rw [onz, if_neg (by omega)]) (fun j x hj => by
    match j, hj with
    | 0, hj => simp at hj; subst hj; rfl)
  have HA2 : Hid (Arr w2 W.heap.size q (onz 1)) := hA2
  have hbW2 : Below W.heap.size W w2 := bY.trans (below_gb hg2 (Nat.le_refl _) bY.size)
  clear hA2 hg2 aY
  go_wp2_with fail
  go_loopw [8] (fun s wr => ∃ (n : Nat), s = .int .i64 (n : Int) ∧ 1 ≤ n ∧ n ≤ q ∧ Hid (Arr wr W.heap.size q (onz n)) ∧ Below W.heap.size W wr) (fun s _ => q - (intOf s).toNat)
  case atStart => exact ⟨1, rfl, by omega, hq1, HA2, hbW2⟩
  case round =>
    obtain ⟨n, rfl, hn1, hnq, HA, hbl2⟩ := hrel
    by_cases c1 : n < q
    · have z1 : (n : Int) < (q : Int) := by omega
      have z2 : ¬ q = n := by omega
      obtain ⟨r, hr⟩ : ∃ r, q - n = r := ⟨_, rfl⟩
      obtain ⟨k, hk⟩ : ∃ k, k = Nat.min n r := ⟨_, rfl⟩
      obtain ⟨w5, hcp5, hA5, hg5⟩ := rep_copy (HA.out.at (Below.refl _ wr).drew) hr hk c1
      have hkn : k ≤ n ∧ k ≤ r ∧ 1 ≤ k := by rw [hk]; exact ⟨Nat.min_le_left _ _, Nat.min_le_right _ _, Nat.le_min.2 ⟨hn1, by omega⟩⟩
      have HA5 : Hid (Arr w5 W.heap.size q (onz (n + k))) := hA5
      have hb5 : Below W.heap.size W w5 := hbl2.trans ((Below.refl _ wr).drew.trans (below_gb hg5 (Nat.le_refl _) (by have := hbl2.size; simpa using this)))
      clear hA5 hg5 hk
      go_wp2_with fail
      go_region
      go_wp2
      go_roundw
      case rel => exact ⟨n + k, by go_num, by omega, by omega, HA5, hb5⟩
      case measure => simp [intOf]; omega
    · obtain rfl : n = q := by omega
      have z1 : ¬ (n : Int) < (n : Int) := by omega
      have HE : Hid (Arr wr W.heap.size n (fun _ => 1)) := HA.out.congr fun i hi => by rw [onz, if_pos hi]
      go_wp2
      go_ret
      exact ⟨_, rfl, Nat.le_refl _, HE.out, hbl2⟩
end Go.Proofs.Ytgfndaiilhbkmaa
