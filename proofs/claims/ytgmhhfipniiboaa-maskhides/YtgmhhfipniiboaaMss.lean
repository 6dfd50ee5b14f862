import Derived.Test.YtgmhhfipniiboaaMat
import Derived.Test.YtgmhhfipniiboaaMsk
namespace Go.Proofs.Ytgmhhfipniiboaa
open Go.RowKit

theorem rowF_succ (k : Nat) (f : Nat → Int) : rowF (k + 1) f = rowF k f ++ [f k] := by simp [rowF, List.range_succ]
theorem num_of_owns {w : World} {base : Nat} {v : Value} {xs : List Int} {n : Nat} (hn : n = xs.length) (hl : xs.length ≤ 9223372036854775807) (h : w.ownsRow base 3 1 v n (xs.map (.int .i64))) : Num w w.heap.size v xs := by
  subst hn
  obtain ⟨_, ⟨hv, h0⟩ | ⟨g, cap, cur, hv, hb, hcur, hc, _, hsz, hx⟩⟩ := h
  · obtain rfl : xs = [] := by cases xs <;> simp_all
    exact ⟨none, 0, hv, Nat.le_refl _, hl, fun h => absurd rfl h⟩
  · refine ⟨_, cap, hv, hc, hl, fun _ => ⟨g, 0, rfl, (Array.getElem?_eq_some_iff.1 hcur).1, fun i x hi => ?_⟩⟩
    have hi2 : i < xs.length := (List.getElem?_eq_some_iff.1 hi).1
    have : cur[i]? = some (.int .i64 x) := by
      have h1 : (xs.map (Value.int .i64))[i]? = some (.int .i64 x) := by simp [hi]
      rw [← hx, List.getElem?_take_of_lt (by omega)] at h1
      simpa using h1
    simp [World.cell?, hcur, this]
theorem below_drewN {h : Nat} {a b : World} (hb : Below h a b) (q : Nat) : Below h a (b.drewN q) := by
  induction q generalizing b with
  | zero => exact hb
  | succ q ih => exact (ih hb).drew

set_option maxRecDepth 100000 in
set_option maxHeartbeats 2000000 in
theorem masks_any (m : Int) (n R : Nat) (sh : Nat → Nat → Int) (hm : 2 ≤ m) (hm2 : m ≤ 1073741824) (hn : 1 ≤ n) (hn2 : n ≤ 16) (hin : ∀ i k, i < n → k < n → 0 ≤ sh i k ∧ sh i k < m) (B : Nat) (v : Value) (xs : List Int) (W : World) (hB : B ≤ W.heap.size) (hx : Num W B v xs) (hl : xs.length = n) (hM : Mat W R n n sh) :
    Calls Try.prog 12 #[.int .i64 m, v, .slice (some ⟨R, 0, none⟩) n n] W fun e W' => ∃ a c, e = .returned (.tuple #[.slice a n c, .bool true]) ∧ Num W' W'.heap.size (.slice a n c) (rowF n (msk m n xs sh)) ∧ Below W.heap.size W W' := by
  obtain ⟨i0, hi0, hz0, hz1, hz2⟩ := info_parts infoI
  have HN : Hid (Num W B v xs) := hx
  have HM : Hid (Mat W R n n sh) := hM
  have HIN : Hid (∀ i k, i < n → k < n → 0 ≤ sh i k ∧ sh i k < m) := hin
  have HL : Hid (xs.length = n) := hl
  obtain ⟨a, c, rfl, hc, _⟩ := hx.slice
  rw [hl] at HN hc ⊢
  clear hx hM hin hl
  go_enter Try.func12, Try.ntmps12
  go_wp2_with fail
  go_loopw [8, 15] (fun ov iv wr => ∃ (k : Nat) (oa : Option Addr) (oc : Nat), iv = .int .i64 (k : Int) ∧ ov = .slice oa k oc ∧ k ≤ n ∧ Hid (wr.ownsRow W.heap.size 3 1 (.slice oa k oc) k ((rowF k (msk m n xs sh)).map (.int .i64))) ∧ Below W.heap.size W wr) (fun _ iv _ => n - (intOf iv).toNat)
  case atStart => exact ⟨0, none, 0, rfl, rfl, Nat.zero_le _, ⟨rfl, .inl ⟨rfl, rfl⟩⟩, Below.refl _ _⟩
  case round =>
    obtain ⟨k, oa, oc, rfl, rfl, hk, HW, hbl⟩ := hrel
    have hrs := hbl.size
    by_cases h1 : k < n
    · have z1 : (k : Int) < (n : Int) := by omega
      obtain ⟨b', o, c', x, e1, _, _, hxx, hcx⟩ := (HN.out.at hB hbl).get (i := k) (by rw [HL.out]; exact h1)
      rw [HL.out] at e1
      simp only [Value.slice.injEq] at e1
      obtain ⟨rfl, -, rfl⟩ := e1
      have HM1 : Hid (Mat wr R n n sh) := HM.out.at hbl
      have cR := HM1.out.cells k h1
      obtain ⟨hE, hK⟩ := mask_in hm hm2 hn hn2 HIN.out h1 (gx_get hxx)
      obtain ⟨y, hy⟩ : ∃ y, msk m n xs sh k = y := ⟨_, rfl⟩
      have HY : Hid (msk m n xs sh k = y) := hy
      rw [hy] at hK
      obtain ⟨t, ht⟩ : ∃ t, x % m = t := ⟨_, rfl⟩
      rw [ht] at hE hK
      have km := fun V => mod_any x m hm hm2 t ht V
      have KK : ∀ q, Calls Try.prog 6 #[.int .i64 m, .int .i64 (k : Int), .int .i64 t, .slice (some ⟨R + 1 + k, 0, none⟩) n n] (wr.drewN q) fun e W' => e = .returned (.tuple #[.int .i64 y, .int .i64 0]) ∧ W' = wr.drewN q := fun q => mask_any m k t _ _ (rowF n (sh k)) (wr.drewN q) (((HM1.out.at (below_drewN (Below.refl _ wr) q)).rows k h1).num (Nat.le_refl n) (by omega)) 0 y hE hK
      clear hxx hE hK hy ht
      go_wp2_with fail
      go_quiet (first | (go_at_call 13; refine Calls.quiet_of_same (km _)) | (go_at_call 6; refine Calls.quiet_of_same (KK _)))
      rename_i nq
      obtain ⟨X, hX⟩ : ∃ X, wr.drewN nq = X := ⟨_, rfl⟩
      have bX : Below W.heap.size W X := by rw [← hX]; exact below_drewN hbl nq
      have HWX : Hid (X.ownsRow W.heap.size 3 1 (.slice oa k oc) k ((rowF k (msk m n xs sh)).map (.int .i64))) := by rw [← hX]; exact row_gb HW.out (gb_none (below_drewN (Below.refl _ wr) nq)) (by simp)
      have hrX := bX.size
      rw [hX]
      clear hX km KK hcx cR HW hbl hrs HM1
      have HOW : Hid ((X.alloc (.cells #[.int .i64 y] 3)).ownsRow W.heap.size 3 1 (.slice oa k oc) k ((rowF k (msk m n xs sh)).map (.int .i64))) := row_gb HWX.out (gb_none (ba _ _)) (by simp)
      go_wp2_with (at_builtin; refine wpList_append_own_at _ rfl _ _ 22 rfl W.heap.size 3 i0 (.int .i64 0) 1 8 Try.underlying22 hi0 hz0 hz1 hz2 rfl (by decide) (.slice oa k oc) k ((rowF k (msk m n xs sh)).map (.int .i64)) rfl HOW.out ⟨X.heap.size, 0, none⟩ 1 1 [.int .i64 y] rfl rfl (one_cells X _ _ _ rfl) (by intro z hz; simp at hz; subst hz; rfl) (by unfold maxLen; omega) (by omega) (by simp; omega) ?_)
      intro nv' w5 hown hgrow hnil hat
      have hlow : Below W.heap.size W w5 := (bX.alloc hrX _).grown hgrow (by simp; omega) (fun y e => (row_lt HWX.out e).1)
      obtain ⟨na, ncc, rfl⟩ := row_slice hown
      have HRW : Hid (w5.ownsRow W.heap.size 3 1 (.slice na (k + 1) ncc) (k + 1) ((rowF (k + 1) (msk m n xs sh)).map (.int .i64))) := by
        rw [Hid, rowF_succ, List.map_append, List.map_cons, List.map_nil, HY.out]; exact hown
      clear hown hgrow hnil hat HOW HWX
      go_wp2
      go_roundw
      case rel => exact ⟨k + 1, na, ncc, by go_num, rfl, by omega, HRW, hlow⟩
      case measure => simp [intOf]; omega
    · obtain rfl : k = n := by omega
      have z1 : ¬ (k : Int) < (k : Int) := by omega
      have HR : Hid (Num wr wr.heap.size (.slice oa k oc) (rowF k (msk m k xs sh))) := num_of_owns (by rw [rowF_len]) (by rw [rowF_len]; omega) HW.out
      clear HW
      go_wp2
      go_ret2
      exact ⟨_, _, rfl, HR.out, hbl⟩
end Go.Proofs.Ytgmhhfipniiboaa
