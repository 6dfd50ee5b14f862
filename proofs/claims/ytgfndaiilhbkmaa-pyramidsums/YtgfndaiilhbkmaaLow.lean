import Derived.Test.YtgfndaiilhbkmaaDiv
import Derived.Test.YtgfndaiilhbkmaaLf1
namespace Go.Proofs.Ytgfndaiilhbkmaa
open Go.RowKit Go.Proofs.Ytgfndaiilhbkmaa.Ds

set_option maxRecDepth 100000 in
set_option maxHeartbeats 4000000 in
theorem lowest_any (g n c ln : Nat) (f : Nat → Int) (hn : n ≤ 1024) (hln1 : 1 ≤ ln) (hln : ln ≤ 1073741824) (W : World) (hA : Arr W g n f) (hf : ∀ i, i < n → (f i).natAbs ≤ 1152921504606846976) (G r : Nat) (hG : gl ln f n = G) (hr0 : ln / G = r) :
    Calls Try.prog 25 #[.slice (some ⟨g, 0, none⟩) n c, .int .i64 (ln : Int)] W fun e W' => ∃ g2, e = .returned (.tuple #[.slice (some ⟨g2, 0, none⟩) n n, .int .i64 (r : Int)]) ∧ W.heap.size ≤ g2 ∧ Arr W' g2 n (fun i => (f i).tdiv (G : Int)) ∧ Below W.heap.size W W' := by
  have HA : Hid (Arr W g n f) := hA
  have HF : Hid (∀ i, i < n → (f i).natAbs ≤ 1152921504606846976) := hf
  have HG : Hid (gl ln f n = G) := hG
  have HR : Hid (ln / G = r) := hr0
  have hmk := make_ints n (by omega)
  have hgW := hA.lt
  clear hA hf hG hr0
  go_enter Try.func25, Try.ntmps25
  go_wp2_with fail
  go_loopw [6, 15] (fun dv s wr => ∃ (i d : Nat), s = .int .i64 (i : Int) ∧ dv = .int .i64 (d : Int) ∧ i ≤ n ∧ Hid (gl ln f i = d) ∧ Below W.heap.size W wr) (fun _ s _ => n - (intOf s).toNat)
  case atStart => exact ⟨0, ln, rfl, rfl, Nat.zero_le _, rfl, Below.refl _ _⟩
  case round =>
    obtain ⟨i, d, rfl, rfl, hi, HD, hbl⟩ := hrel
    have hd1 : 1 ≤ d := by rw [← HD.out]; exact gl_pos hln1 f i
    have hd2 : d ≤ 1073741824 := by have := gl_le hln1 f i; rw [HD.out] at this; omega
    by_cases c1 : i < n
    · obtain ⟨x, hx⟩ : ∃ x, f i = x := ⟨_, rfl⟩
      have hxb := HF.out i c1
      have cA := (HA.out.at hbl).cells i c1
      rw [hx] at hxb cA
      have kd := fun V => divisor_int (d : Int) x (by omega) (by omega) (by omega) (by omega) V
      have e1 : Int.gcd (d : Int) x = Nat.gcd d x.natAbs := rfl
      obtain ⟨d2, hd2'⟩ : ∃ d2, Nat.gcd d x.natAbs = d2 := ⟨_, rfl⟩
      rw [e1, hd2'] at kd
      have HD2 : Hid (gl ln f (i + 1) = d2) := by rw [Hid, gl, HD.out, hx, hd2']
      have z1 : (i : Int) < (n : Int) := by omega
      clear hx e1 hd2'
      go_wp2_with fail
      refine (kd _).mono ?_
      rintro e1 w1 ⟨rfl, hb1⟩
      clear kd
      go_wp2
      go_roundw
      case rel => exact ⟨i + 1, d2, by go_num, rfl, by omega, HD2, bt hbl hb1⟩
      case measure => simp [intOf]; omega
    · obtain rfl : i = n := by omega
      obtain rfl : d = G := by rw [← HD.out, HG.out]
      have z1 : ¬ (i : Int) < (i : Int) := by omega
      obtain ⟨w2, hw2⟩ : ∃ w2, w2 = wr := ⟨_, rfl⟩
      subst hw2
      have hne : ¬ (d : Int) = 0 := by omega
      have hne2 : ¬ d = 0 := by omega
      have hri : (ln : Int) / (d : Int) = (r : Int) := by rw [← HR.out]; exact (Int.natCast_ediv _ _).symm
      have hrb : r ≤ 1073741824 := by rw [← HR.out]; exact Nat.le_trans (Nat.div_le_self _ _) hln
      clear HD HR
      have hs2 := hbl.size
      go_wp2_with fail
      go_loopw [28] (fun s wx => ∃ (k : Nat), s = .int .i64 (k : Int) ∧ k ≤ i ∧ Hid (Arr wx w2.heap.size i (fun j => if j < k then (f j).tdiv (d : Int) else 0)) ∧ Below w2.heap.size w2 wx) (fun s _ => i - (intOf s).toNat)
      case atStart => exact ⟨0, rfl, Nat.zero_le _, (Arr.made _ _ _ rfl).congr fun j _ => by simp, ba _ _⟩
      case round =>
        obtain ⟨k, rfl, hk, HO, hbx⟩ := hrel
        by_cases c2 : k < i
        · obtain ⟨x, hx⟩ : ∃ x, f k = x := ⟨_, rfl⟩
          have hxb := HF.out k c2
          have cA := (HA.out.at (bt hbl hbx)).cells k c2
          have cO := HO.out.cells k c2
          have fO := HO.out.thaw k c2
          rw [hx] at hxb cA
          simp only [Nat.lt_irrefl, if_false] at cO
          obtain ⟨y, hy⟩ : ∃ y, x.tdiv (d : Int) = y := ⟨_, rfl⟩
          have hyb : y.natAbs ≤ 1152921504606846976 := by rw [← hy, Int.natAbs_tdiv]; exact Nat.le_trans (Nat.div_le_self _ _) hxb
          have hwy : IntKind.i64.wrap (x.tdiv (d : Int)) = y := by rw [hy]; exact wrap_id (by omega)
          have HO2 : Hid (Arr (wr.setCell ⟨w2.heap.size, k, none⟩ (.int .i64 y)) w2.heap.size i (fun j => if j < k + 1 then (f j).tdiv (d : Int) else 0)) := (HO.out.set k c2 y).congr fun j _ => by
            unfold upd
            by_cases e : j = k
            · subst e; rw [if_pos rfl, if_pos (by omega), hx, hy]
            · rw [if_neg e]
              show (if j < k then (f j).tdiv (d : Int) else 0) = _
              by_cases e2 : j < k
              · rw [if_pos e2, if_pos (by omega)]
              · rw [if_neg e2, if_neg (by omega)]
          have hbx2 : Below w2.heap.size w2 (wr.setCell ⟨w2.heap.size, k, none⟩ (.int .i64 y)) := bs hbx (Nat.le_refl _) _
          have z2 : (k : Int) < (i : Int) := by omega
          clear hx
          go_wp2
          go_roundw
          case rel => exact ⟨k + 1, by go_num, by omega, HO2, hbx2⟩
          case measure => simp [intOf]; omega
        · obtain rfl : k = i := by omega
          have z2 : ¬ (k : Int) < (k : Int) := by omega
          have HE : Hid (Arr wr w2.heap.size k (fun j => (f j).tdiv (d : Int))) := HO.out.congr fun j hj => by rw [if_pos hj]
          go_wp2
          go_quiet (fail)
          go_wp2
          go_ret2
          exact ⟨_, rfl, hs2, HE.out.at (below_drewN (Below.refl _ _) _), below_drewN (bt hbl hbx) _⟩
end Go.Proofs.Ytgfndaiilhbkmaa
