import Derived.Test.YtgfndaiilhbkmaaRisS
import Derived.Laws.IdiomCopy
namespace Go.Proofs.Ytgfndaiilhbkmaa
open Go.RowKit Go.Proofs.Ytgfndaiilhbkmaa.Ds

theorem cpy_size (b : Nat) : ∀ (vs : List Value) (o : Nat) (w : World), (w.setCells b o vs).heap.size = w.heap.size
  | [], _, _ => rfl
  | v :: r, o, w => by rw [World.setCells, cpy_size b r]; simp
theorem cpy_gb (b : Nat) : ∀ (vs : List Value) (o : Nat) (w : World), w.grownBy (w.setCells b o vs) (some b)
  | [], _, w => gb_refl w _
  | v :: r, o, w => gb_trans (gb_set (gb_refl w (some b)) o v) (cpy_gb b r (o + 1) _)
/-- numbers are copied over others -/
theorem Arr.copy {V : World} {g n off B : Nat} {f F : Nat → Int} {v : Value} {xs : List Int} (hA : Arr V g n f) (hx : Num V B v xs) (hne : xs ≠ []) (hfit : off + xs.length ≤ n) (hF1 : ∀ i, i < n → ¬ (off ≤ i ∧ i < off + xs.length) → f i = F i) (hF2 : ∀ j x, xs[j]? = some x → F (off + j) = x) (dc : Nat) :
    ∃ V', (∀ ty, (Builtin.copy_ #[22, 22] ty #[.slice (some ⟨g, off, none⟩) xs.length dc, v]).run Try.prog V = .ok (goInt xs.length) V') ∧ Arr V' g n F ∧ V.grownBy V' (some g) := by
  obtain ⟨a, c, rfl, hc, hl, hxx⟩ := hx
  obtain ⟨b, o, rfl, hb, hcell⟩ := hxx hne
  have hcs : ∀ j u, (xs.map (Value.int .i64))[j]? = some u → V.cell? ((⟨b, o, none⟩ : Addr).add j) = some u := by
    intro j u hj
    have hlt : j < xs.length := by have := (List.getElem?_eq_some_iff.1 hj).1; simpa using this
    obtain ⟨x, hx1⟩ := get_lt hlt
    rw [Addr.add_lit, hcell j x hx1]
    simpa [hx1] using hj
  refine ⟨V.setCells g off (xs.map (Value.int .i64)), fun ty => ?_, ⟨fun i hi => ?_, fun i hi => ?_, ?_⟩, cpy_gb _ _ _ _⟩
  · obtain ⟨i0, hi0, hz0, hz1, hz2⟩ := info_parts infoI
    have h := run_copy_cells (P := Try.prog) V 22 22 ty 3 g off xs.length dc ⟨b, o, none⟩ xs.length c (xs.map (Value.int .i64)) Try.underlying22 (by rw [hi0]; simp [hz1]) (by simp) hcs
      (fun j hj => by rw [hA.cells (off + j) (by simp at hj; omega)]; rfl) (fun j hj => hA.thaw (off + j) (by simp at hj; omega)) (by intro v hv; obtain ⟨x, _, rfl⟩ := List.mem_map.1 hv; rfl)
    simpa using h
  · by_cases h1 : off ≤ i ∧ i < off + xs.length
    · obtain ⟨j, rfl⟩ : ∃ j, i = off + j := ⟨i - off, by omega⟩
      obtain ⟨x, hx1⟩ := get_lt (l := xs) (i := j) (by omega)
      have h2 := World.cell?_setCells_in g (xs.map (Value.int .i64)) off V (fun k hk => by rw [hA.cells (off + k) (by simp at hk; omega)]; rfl) j (by simp; omega)
      rw [h2, hF2 j x hx1]
      simp [(List.getElem?_eq_some_iff.1 hx1).2]
    · rw [World.cell?_setCells_out g _ _ _ _ (fun _ _ => by simp; omega), hA.cells i hi, hF1 i hi h1]
  · rw [World.frozen?_setCells]; exact hA.thaw i hi
  · rw [cpy_size]; exact hA.lt

/-- all nodes, of the lowest ones -/
def sumF (w H : Nat) (xs : List Int) : Nat → Int := risF (fun _ s => s) (fun i => xs.getD (i - inr w H) 0) w H

theorem same_any (m s : Int) (W : World) : Calls Try.prog 32 #[.int .i64 m, .int .i64 s] W fun e W' => e = .returned (.int .i64 s) ∧ Below W.heap.size W W' := by
  go_enter Try.func32, Try.ntmps32
  go_wp2
  go_ret
  exact ⟨rfl, Below.refl _ _⟩

set_option maxRecDepth 100000 in
set_option maxHeartbeats 4000000 in
theorem sums_any (w H n q B : Nat) (v : Value) (xs : List Int) (hw : 2 ≤ w) (hw2 : w ≤ 16) (hn : nds w H = n) (hn2 : n ≤ 1024) (hq : w ^ H = q) (W : World) (hB : B ≤ W.heap.size) (hx : Num W B v xs) (hl : xs.length = q)
    (hsb : ∀ m, m < inr w H → -9223372036854775808 ≤ sumN (sumF w H xs) (w * m + 1) w ∧ sumN (sumF w H xs) (w * m + 1) w ≤ 9223372036854775807) :
    Calls Try.prog 18 #[shV w H n q, v] W fun e W' => e = .returned (.slice (some ⟨W.heap.size + 1, 0, none⟩) n n) ∧ Arr W' (W.heap.size + 1) n (sumF w H xs) ∧ Below W.heap.size W W' := by
  obtain ⟨inn, hin⟩ : ∃ inn, inr w H = inn := ⟨_, rfl⟩
  have hia := inr_add w H
  have hil := inr_lt w H (by omega)
  rw [hin, hn, hq] at hia
  rw [hin, hn] at hil
  have hmk := make_ints n (by omega)
  have HX : Hid (Num W B v xs) := hx
  have HH : Hid (nds w H = n ∧ w ^ H = q ∧ inr w H = inn ∧ xs.length = q ∧ ∀ m, m < inr w H → -9223372036854775808 ≤ sumN (sumF w H xs) (w * m + 1) w ∧ sumN (sumF w H xs) (w * m + 1) w ≤ 9223372036854775807) := ⟨hn, hq, hin, hl, hsb⟩
  have ki := fun V => inner_any w H n q inn hn2 hia V
  obtain ⟨a, c, rfl, hc, hl2⟩ := hx.slice
  clear hx hn hq hin hsb
  obtain ⟨X, hX⟩ : ∃ X, W.alloc (.cells #[.int .i64 (w : Int), .int .i64 (H : Int), .int .i64 (n : Int), .int .i64 (q : Int)] 35) = X := ⟨_, rfl⟩
  have bX : Below W.heap.size W X := by rw [← hX]; exact ba _ _
  have zX : X.heap.size = W.heap.size + 1 := by rw [← hX]; simp
  have sX : ShB X W.heap.size (.int .i64 (w : Int)) (.int .i64 (H : Int)) (.int .i64 (n : Int)) (.int .i64 (q : Int)) := by rw [← hX]; exact ShB.new _ _ _ _ _ _ rfl
  obtain ⟨Y, hY⟩ : ∃ Y, X.alloc (.cells (madeCells #[.int .i64 0] n) 3) = Y := ⟨_, rfl⟩
  have bY : Below W.heap.size W Y := by rw [← hY]; exact bal bX _
  have sY : ShB Y W.heap.size (.int .i64 (w : Int)) (.int .i64 (H : Int)) (.int .i64 (n : Int)) (.int .i64 (q : Int)) := by rw [← hY]; exact sX.at (ba _ _)
  have aY : Arr Y (W.heap.size + 1) n (fun _ => 0) := by rw [← hY]; exact Arr.made _ _ _ zX.symm
  have x2 := sX.c2
  have y0 := sY.c0
  have y1 := sY.c1
  have y2 := sY.c2
  have y3 := sY.c3
  have HAY : Hid (Arr Y (W.heap.size + 1) n (fun _ => 0)) := aY
  have HSY : Hid (ShB Y W.heap.size (.int .i64 (w : Int)) (.int .i64 (H : Int)) (.int .i64 (n : Int)) (.int .i64 (q : Int))) := sY
  clear sX sY aY
  rw [hl] at hl2 hc
  rw [hl]
  go_enter Try.func18, Try.ntmps18
  go_wp2_with fail
  refine (ki _).mono ?_
  rintro e1 w1 ⟨rfl, hb1⟩
  have HA1 : Hid (Arr w1 (W.heap.size + 1) n (fun _ => 0)) := HAY.out.at hb1
  have HS1 : Hid (ShB w1 W.heap.size (.int .i64 (w : Int)) (.int .i64 (H : Int)) (.int .i64 (n : Int)) (.int .i64 (q : Int))) := HSY.out.at hb1
  have hbW1 : Below W.heap.size W w1 := bt bY hb1
  clear ki y0 y1 y2 y3 x2
  have hcut : n - inn = q := by omega
  have hne : ¬ n = inn := by omega
  obtain ⟨w2, hcp, hA2, hg2⟩ := HA1.out.copy (off := inn) (F := stt (sumF w H xs) (fun _ => 0) inn) (HX.out.at hB hbW1) (by rintro rfl; simp at hl; omega) (by omega) (fun i hi hni => by rw [stt, if_neg (by omega)])
    (fun j x hj => by
      have hjl := (List.getElem?_eq_some_iff.1 hj).1
      rw [stt, if_pos (by omega), sumF, risF_leaf (by omega) (by rw [HH.out.1]; omega) (by rw [HH.out.2.2.1]; omega), HH.out.2.2.1, Nat.add_sub_cancel_left, List.getD, hj]; rfl) q
  rw [hl] at hcp
  have HA2 : Hid (Arr w2 (W.heap.size + 1) n (stt (sumF w H xs) (fun _ => 0) inn)) := hA2
  have HS2 : ShB w2 W.heap.size (.int .i64 (w : Int)) (.int .i64 (H : Int)) (.int .i64 (n : Int)) (.int .i64 (q : Int)) := HS1.out.same (hg2.block _ HS1.out.lt (by simp))
  have hs2 := hg2.size
  have hbW2 : Below W.heap.size W w2 := hbW1.trans (below_gb hg2 (by omega) (by have := HA1.out.lt; omega))
  have kr := riseS_any w H (W.heap.size + 1) n n q (sumF w H xs) (fun _ => 0) hw hw2 HH.out.1 hn2 HH.out.2.1 w2 (by rw [HH.out.2.2.1]; exact HA2.out) HH.out.2.2.2.2 (fun V m s hm hsm _ _ => by
    have e1 : sumF w H xs m = s := by rw [← hsm, sumF, risF_inner _ _ (by omega) hm]
    rw [e1]
    exact same_any _ _ _)
  have y0 := HS2.c0
  have y1 := HS2.c1
  have y2 := HS2.c2
  have y3 := HS2.c3
  clear hA2 hg2 HS2
  go_wp2_with fail
  refine kr.mono ?_
  rintro e3 w3 ⟨rfl, hA3, hg3⟩
  have HA3 : Hid (Arr w3 (W.heap.size + 1) n (sumF w H xs)) := hA3
  have hbW3 : Below W.heap.size W w3 := hbW2.trans (below_gb hg3 (by omega) hbW2.size)
  clear kr hA3 hg3
  go_wp2
  go_ret
  exact ⟨rfl, HA3.out, hbW3⟩
end Go.Proofs.Ytgfndaiilhbkmaa
