import Derived.Test.YtgfndaiilhbkmaaRf1
import Derived.Test.YtgfndaiilhbkmaaLf1
namespace Go.Proofs.Ytgfndaiilhbkmaa
open Go.RowKit Go.Proofs.Ytgfndaiilhbkmaa.Ds

/-- the nodes below a node, as numbers -/
def kdL (w i k : Nat) : List Int := (List.range k).map fun j => ((w * i + 1 + j : Nat) : Int)
theorem kdL_succ (w i k : Nat) : kdL w i (k + 1) = kdL w i k ++ [((w * i + 1 + k : Nat) : Int)] := by simp [kdL, List.range_succ]
theorem kdL_len (w i k : Nat) : (kdL w i k).length = k := by simp [kdL]

set_option maxRecDepth 100000 in
set_option maxHeartbeats 2000000 in
theorem kids_any (w i : Nat) (hw : 2 ≤ w) (hw2 : w ≤ 16) (hi : i ≤ 1024) (W : World) : Calls Try.prog 21 #[.int .i64 (w : Int), .int .i64 (i : Int)] W fun e W' => ∃ g c, e = .returned (.slice (some ⟨g, 0, none⟩) w c) ∧ w ≤ c ∧ W.heap.size ≤ g ∧ Arr W' g w (fun j => ((w * i + 1 + j : Nat) : Int)) ∧ Below W.heap.size W W' := by
  obtain ⟨i0, hi0, hz0, hz1, hz2⟩ := info_parts infoI
  obtain ⟨p, hp⟩ : ∃ p, w * i = p := ⟨_, rfl⟩
  have HP : Hid (w * i = p) := hp
  have hpb : p ≤ 16384 := by rw [← hp]; exact Nat.le_trans (Nat.mul_le_mul hw2 hi) (by decide)
  have hpi : (w : Int) * (i : Int) = (p : Int) := by rw [← hp]; simp
  have hwp : IntKind.i64.wrap ((w : Int) * (i : Int)) = (p : Int) := by rw [hpi, IntKind.wrap_i64]; omega
  clear hp
  go_enter Try.func21, Try.ntmps21
  go_wp2_with fail
  go_loopw [5, 6] (fun ov s wr => ∃ (j : Nat) (oa : Option Addr) (oc : Nat), s = .int .i64 ((j : Int) + 1) ∧ ov = .slice oa j oc ∧ j ≤ w ∧ Hid (wr.ownsRow W.heap.size 3 1 (.slice oa j oc) j ((kdL w i j).map (.int .i64))) ∧ Below W.heap.size W wr) (fun _ s _ => w + 1 - (intOf s).toNat)
  case atStart => exact ⟨0, none, 0, rfl, rfl, Nat.zero_le _, ⟨rfl, .inl ⟨rfl, rfl⟩⟩, Below.refl _ _⟩
  case round =>
    obtain ⟨j, oa, oc, rfl, rfl, hj, HW, hbl⟩ := hrel
    have hrs := hbl.size
    by_cases h1 : j < w
    · have z1 : (j : Int) + 1 ≤ (w : Int) := by omega
      have HOW : Hid ((wr.alloc (.cells #[.int .i64 ((p : Int) + ((j : Int) + 1))] 3)).ownsRow W.heap.size 3 1 (.slice oa j oc) j ((kdL w i j).map (.int .i64))) := row_gb HW.out (gb_none (ba _ _)) (by simp)
      go_wp2_with (at_builtin; refine wpList_append_own_at _ rfl _ _ 22 rfl W.heap.size 3 i0 (.int .i64 0) 1 8 Try.underlying22 hi0 hz0 hz1 hz2 rfl (by decide) (.slice oa j oc) j ((kdL w i j).map (.int .i64)) rfl HOW.out ⟨wr.heap.size, 0, none⟩ 1 1 [.int .i64 ((p : Int) + ((j : Int) + 1))] rfl rfl (one_cells wr _ _ _ rfl) (by intro z hz; simp at hz; subst hz; rfl) (by unfold maxLen; omega) (by omega) (by simp; omega) ?_)
      intro nv' w5 hown hgrow hnil hat
      have hlow : Below W.heap.size W w5 := (hbl.alloc hrs _).grown hgrow (by simp; omega) (fun y e => (row_lt HW.out e).1)
      obtain ⟨na, ncc, rfl⟩ := row_slice hown
      have HRW : Hid (w5.ownsRow W.heap.size 3 1 (.slice na (j + 1) ncc) (j + 1) ((kdL w i (j + 1)).map (.int .i64))) := by
        have e1 : ((w * i + 1 + j : Nat) : Int) = (p : Int) + ((j : Int) + 1) := by rw [HP.out]; omega
        rw [Hid, kdL_succ, List.map_append, List.map_cons, List.map_nil, e1]; exact hown
      clear hown hgrow hnil hat HOW
      go_wp2
      go_roundw
      case rel => exact ⟨j + 1, na, ncc, by go_num, rfl, by omega, HRW, hlow⟩
      case measure => simp [intOf]; omega
    · obtain rfl : j = w := by omega
      have z1 : ¬ (j : Int) + 1 ≤ (j : Int) := by omega
      have hrow := HW.out
      have hne : kdL j i j ≠ [] := by intro e; have := kdL_len j i j; rw [e] at this; simp at this; omega
      obtain ⟨g, cap, he, hc, hg, hA⟩ := arr_of_owns (xs := kdL j i j) (by rw [kdL_len]; exact hrow) hne
      rw [kdL_len] at he hc hA
      simp only [Value.slice.injEq] at he
      obtain ⟨rfl, -, rfl⟩ := he
      have HA : Hid (Arr wr g j (fun k => ((j * i + 1 + k : Nat) : Int))) := hA.congr fun k hk => by simp [kdL, List.getD, hk]
      clear hrow hne hA
      go_wp2
      go_ret
      exact ⟨g, _, rfl, hc, hg, HA.out.congr fun k _ => by show ((j * i + 1 + k : Nat) : Int) = _; rw [HP.out]; simp, hbl⟩

theorem ssum_any (g n c gk ck w m : Nat) (f : Nat → Int) (hw2 : w ≤ 16) (hk : ∀ j, j < w → w * m + 1 + j < n) (W : World) (hA : Arr W g n f) (hK : Arr W gk w (fun j => ((w * m + 1 + j : Nat) : Int))) (hf : ∀ j, j < w → (f (w * m + 1 + j)).natAbs ≤ 144115188075855872) (s : Int) (hs : sumN f (w * m + 1) w = s) :
    Calls Try.prog 20 #[.slice (some ⟨g, 0, none⟩) n c, .slice (some ⟨gk, 0, none⟩) w ck] W fun e W' => e = .returned (.int .i64 s) ∧ W' = W := by
  have HA : Hid (Arr W g n f) := hA
  have HK : Hid (Arr W gk w (fun j => ((w * m + 1 + j : Nat) : Int))) := hK
  have HH : Hid ((∀ j, j < w → w * m + 1 + j < n) ∧ (∀ j, j < w → (f (w * m + 1 + j)).natAbs ≤ 144115188075855872) ∧ sumN f (w * m + 1) w = s) := ⟨hk, hf, hs⟩
  clear hA hK hk hf hs
  go_enter Try.func20, Try.ntmps20
  go_wp2
  go_loopw [5, 10] (fun nv iv wr => ∃ (j : Nat) (t : Int), iv = .int .i64 (j : Int) ∧ nv = .int .i64 t ∧ j ≤ w ∧ Hid (sumN f (w * m + 1) j = t) ∧ wr = W) (fun _ iv _ => w - (intOf iv).toNat)
  case atStart => exact ⟨0, 0, rfl, rfl, Nat.zero_le _, rfl, rfl⟩
  case round =>
    obtain ⟨j, t, rfl, rfl, hj, HT, hwr⟩ := hrel
    have hwy := hwr.symm
    subst hwy
    clear hwr
    by_cases c1 : j < w
    · have cK := HK.out.cells j c1
      have hxn := HH.out.1 j c1
      have hxb := HH.out.2.1 j c1
      have htb : t.natAbs ≤ j * 144115188075855872 := by rw [← HT.out]; exact sumN_abs fun k hk => HH.out.2.1 k (by omega)
      have htb2 : j * 144115188075855872 ≤ 16 * 144115188075855872 := Nat.mul_le_mul_right _ (by omega)
      have HT2 : Hid (sumN f (w * m + 1) (j + 1) = t + f (w * m + 1 + j)) := by rw [Hid, sumN, HT.out]
      obtain ⟨x, hx⟩ : ∃ x, w * m + 1 + j = x := ⟨_, rfl⟩
      simp only [hx] at cK hxn hxb HT2
      have cX := HA.out.cells x hxn
      obtain ⟨y, hy⟩ : ∃ y, f x = y := ⟨_, rfl⟩
      rw [hy] at cX hxb HT2
      have tb : -2305843009213693952 ≤ t ∧ t ≤ 2305843009213693952 := by omega
      have yb : -144115188075855872 ≤ y ∧ y ≤ 144115188075855872 := by omega
      have z1 : (j : Int) < (w : Int) := by omega
      have z2 : (x : Int) < (n : Int) := by omega
      clear hx hy htb htb2 hxb
      go_wp2
      go_roundw
      case rel => exact ⟨j + 1, t + y, by go_num, by first | rfl | go_num, by omega, HT2, by first | rfl | trivial⟩
      case measure => simp [intOf]; omega
    · obtain rfl : j = w := by omega
      obtain rfl : t = s := by rw [← HT.out, HH.out.2.2]
      have z1 : ¬ (j : Int) < (j : Int) := by omega
      go_wp2
      go_ret
      exact ⟨rfl, rfl⟩
end Go.Proofs.Ytgfndaiilhbkmaa
