import Derived.Test.YthmkbkombjhaeaaQw21
import Derived.Test.YthmkbkombjhaeaaQw11
import Derived.Test.YthmkbkombjhaeaaQw31
namespace Go.Proofs.Ythmkbkombjhaeaa
open Go.RowKit Go.Proofs.Ythmkbkombjhaeaa.Ds

/-- ahead less behind, as far as one has come -/
def mf (xs : List Int) (i : Nat) (k : Nat) : Int := (xs.take (min k i)).sum - ((xs.take k).drop (i + 1)).sum
theorem mf_zero (xs : List Int) (i : Nat) : mf xs i 0 = 0 := by simp [mf]
theorem mf_lt {xs : List Int} {i k : Nat} {x : Int} (h : k < i) (hx : xs[k]? = some x) : mf xs i (k + 1) = mf xs i k + x := by
  unfold mf
  rw [show min (k + 1) i = k + 1 by omega, show min k i = k by omega, take_sum hx]
  have e1 : (xs.take (k + 1)).drop (i + 1) = [] := List.drop_eq_nil_of_le (by rw [List.length_take]; omega)
  have e2 : (xs.take k).drop (i + 1) = [] := List.drop_eq_nil_of_le (by rw [List.length_take]; omega)
  rw [e1, e2]
  simp
theorem mf_eq {xs : List Int} {i : Nat} : mf xs i (i + 1) = mf xs i i := by
  unfold mf
  rw [show min (i + 1) i = i by omega, show min i i = i by omega]
  have e1 : (xs.take (i + 1)).drop (i + 1) = [] := List.drop_eq_nil_of_le (by rw [List.length_take]; omega)
  have e2 : (xs.take i).drop (i + 1) = [] := List.drop_eq_nil_of_le (by rw [List.length_take]; omega)
  rw [e1, e2]
theorem mf_gt {xs : List Int} {i k : Nat} {x : Int} (h : i < k) (hx : xs[k]? = some x) : mf xs i (k + 1) = mf xs i k - x := by
  unfold mf
  rw [show min (k + 1) i = i by omega, show min k i = i by omega, List.take_add_one, hx]
  have hl : k < xs.length := (List.getElem?_eq_some_iff.1 hx).1
  rw [List.drop_append_of_le_length (by rw [List.length_take]; omega), List.sum_append_int]
  simp
  omega
theorem mf_all {xs : List Int} {i : Nat} (hi : i < xs.length) : mf xs i xs.length = midF xs i := by
  unfold mf midF
  rw [show min xs.length i = i by omega, List.take_length]
theorem mf_bd {xs : List Int} (h : ∀ x ∈ xs, 0 ≤ x ∧ x ≤ 4096) (hl : xs.length ≤ 4096) (i k : Nat) : -16777216 ≤ mf xs i k ∧ mf xs i k ≤ 16777216 := by
  unfold mf
  have t1 := sum_bd (xs := xs.take (min k i)) fun x hx => h x (List.mem_of_mem_take hx)
  have t2 := sum_bd (xs := (xs.take k).drop (i + 1)) fun x hx => h x (List.mem_of_mem_take (List.mem_of_mem_drop hx))
  rw [List.length_take] at t1
  rw [List.length_drop, List.length_take] at t2
  omega
set_option maxHeartbeats 2000000 in
set_option maxRecDepth 100000 in
theorem rmiddle_any (B : Nat) (v : Value) (xs : List Int) (w : World) (h : Num w B v xs) (hB : B ≤ w.heap.size) (ys : List Int) (er : Int) (hr : midT xs = (ys, er)) :
    Calls Try.prog 15 #[v] w fun e w' => ∃ v', e = .returned (.tuple #[v', .int .i64 er]) ∧ Num w' w'.heap.size v' ys ∧ Below w.heap.size w w' := by
  have HN : Hid (Num w B v xs) := h
  have HR : Hid (midT xs = (ys, er)) := hr
  obtain ⟨a, c, rfl, hc, hl, _⟩ := h
  have nnil : ∀ u : World, Num u u.heap.size (.slice none 0 0) [] := fun u => ⟨none, 0, rfl, Nat.le_refl _, by simp, fun h => absurd rfl h⟩
  clear hr
  go_enter Try.func15, Try.ntmps15
  go_wp2
  go_loop [14] (fun i => ∃ k : Nat, k ≤ xs.length ∧ Hid (Rgt xs k) ∧ i = .int .i64 (k : Int)) (fun i => xs.length - (intOf i).toNat)
  case atStart => exact ⟨0, Nat.zero_le _, rfl, rfl⟩
  case round =>
    obtain ⟨k, hk, HK, rfl⟩ := hrel
    by_cases h1 : k < xs.length
    · obtain ⟨b, o, c', x, he, _, _, hx, hcx⟩ := HN.out.get h1
      simp only [Value.slice.injEq] at he
      obtain ⟨rfl, -, rfl⟩ := he
      by_cases c1 : x < 0
      · have h3 := Rgt.hit hx (by omega)
        have hm := HR.out
        unfold midT at hm
        rw [h3] at hm
        simp at hm
        obtain ⟨rfl, rfl⟩ := hm
        clear hx h3
        go_wp2
        exact bodyPost_ret (v := .tuple #[.slice none 0 0, .int .i64 3]) (by simp [results, Try.results15, go_sem]) rfl ⟨_, rfl, nnil _, Below.refl _ _⟩
      · by_cases c2 : 4096 < x
        · have h3 := Rgt.hit hx (by omega)
          have hm := HR.out
          unfold midT at hm
          rw [h3] at hm
          simp at hm
          obtain ⟨rfl, rfl⟩ := hm
          clear hx h3
          go_wp2
          exact bodyPost_ret (v := .tuple #[.slice none 0 0, .int .i64 3]) (by simp [results, Try.results15, go_sem]) rfl ⟨_, rfl, nnil _, Below.refl _ _⟩
        · have HK2 : Hid (Rgt xs (k + 1)) := HK.out.step hx ⟨by omega, by omega⟩
          clear hx
          go_wp2
          go_round
          case rel => exact ⟨k + 1, h1, HK2, by go_num⟩
          case measure => simp [intOf]; omega
    · have hkl : k = xs.length := by omega
      have hall := HK.out.all (by omega)
      have hma : xs.all (fun n => decide (0 ≤ n ∧ n ≤ 4096)) = true := by
        rw [List.all_eq_true]; exact fun x hx => decide_eq_true (hall x hx)
      by_cases c1 : 4096 < xs.length
      · have hm := HR.out
        unfold midT midE at hm
        rw [if_pos hma, if_pos c1] at hm
        simp at hm
        obtain ⟨rfl, rfl⟩ := hm
        clear hma hall
        go_wp2
        exact bodyPost_ret (v := .tuple #[.slice none 0 0, .int .i64 5]) (by simp [results, Try.results15, go_sem]) rfl ⟨_, rfl, nnil _, Below.refl _ _⟩
      · have hm := HR.out
        unfold midT midE at hm
        rw [if_pos hma, if_neg c1] at hm
        simp only [ne_eq, not_true_eq_false, if_false, Prod.mk.injEq] at hm
        obtain ⟨hys, rfl⟩ := hm
        have HY : Hid ((List.range xs.length).map (midS xs) = ys) := hys
        have HLb : Hid (∀ x ∈ xs, 0 ≤ x ∧ x ≤ 4096) := hall
        have hlen : xs.length ≤ 4096 := by omega
        clear hys hma hall HK HR
        subst hkl
        go_wp2
        go_loopw [6, 30] (fun pv iv wr => ∃ (i : Nat), i ≤ xs.length ∧ iv = .int .i64 (i : Int) ∧ Hid (Ow wr w.heap.size pv (((List.range xs.length).map (midS xs)).take i)) ∧ Below w.heap.size w wr) (fun _ iv _ => xs.length - (intOf iv).toNat)
        case atStart => exact ⟨0, Nat.zero_le _, rfl, by show Ow _ _ _ _; rw [List.take_zero]; exact Ow.nil _ _, Below.refl _ _⟩
        case round =>
          obtain ⟨i, hi, rfl, HO, hbl⟩ := hrel
          obtain ⟨L, hL⟩ : ∃ L, ((List.range xs.length).map (midS xs)).take i = L := ⟨_, rfl⟩
          have hol : L.length = i := by rw [← hL]; simp; omega
          have HLs : Hid (((List.range xs.length).map (midS xs)).take i = L) := hL
          rw [hL] at HO
          clear hL
          obtain ⟨pa, pc, hpv⟩ := HO.out.slice
          rw [hol] at hpv
          subst hpv
          by_cases h2 : i < xs.length
          · obtain ⟨b, o, c', x, he, _, hbB, hx, hcx⟩ := (HN.out.at hB hbl).get h2
            simp only [Value.slice.injEq] at he
            obtain ⟨rfl, -, rfl⟩ := he
            obtain ⟨x0, x1⟩ := HLb.out x (List.mem_of_getElem? hx)
            have HXi : Hid (xs[i]? = some x) := hx
            have HNr : Hid (Num wr B (.slice (some ⟨b, o, none⟩) xs.length c) xs) := HN.out.at hB hbl
            clear hx
            obtain ⟨wo, hwo⟩ : ∃ wo : World, wo = wr := ⟨_, rfl⟩
            subst hwo
            go_wp2
            go_loop [9, 37] (fun fv kv => ∃ (k : Nat) (z : Int), k ≤ xs.length ∧ Hid (mf xs i k = z) ∧ fv = .int .i64 z ∧ kv = .int .i64 (k : Int)) (fun _ kv => xs.length - (intOf kv).toNat)
            case atStart => exact ⟨0, 0, Nat.zero_le _, mf_zero xs i, rfl, rfl⟩
            case round =>
              obtain ⟨k, z, hk, HZ, rfl, rfl⟩ := hrel
              have hzb := mf_bd HLb.out hlen i k
              rw [HZ.out] at hzb
              obtain ⟨z0, z1⟩ := hzb
              by_cases h3 : k < xs.length
              · obtain ⟨b2, o2, c2, y, he2, _, _, hy, hcy⟩ := HNr.out.get h3
                simp only [Value.slice.injEq, Option.some.injEq, Addr.mk.injEq] at he2
                obtain ⟨⟨rfl, rfl, -⟩, -, rfl⟩ := he2
                obtain ⟨y0, y1⟩ := HLb.out y (List.mem_of_getElem? hy)
                have HYk : Hid (xs[k]? = some y) := hy
                clear hy
                by_cases d1 : k < i
                · have HZ2 : Hid (mf xs i (k + 1) = z + y) := by show _ = _; rw [mf_lt d1 HYk.out, HZ.out]
                  have d2 : ¬ (i : Int) < (k : Int) := by omega
                  have d3 : (k : Int) < (i : Int) := by omega
                  clear HZ
                  go_wp2
                  go_round
                  case rel => exact ⟨k + 1, z + y, h3, HZ2, by first | rfl | go_num, by go_num⟩
                  case measure => simp [intOf]; omega
                · by_cases d2 : i < k
                  · have HZ2 : Hid (mf xs i (k + 1) = z - y) := by show _ = _; rw [mf_gt d2 HYk.out, HZ.out]
                    have d3 : ¬ (k : Int) < (i : Int) := by omega
                    have d4 : (i : Int) < (k : Int) := by omega
                    clear HZ
                    go_wp2
                    go_round
                    case rel => exact ⟨k + 1, z - y, h3, HZ2, by first | rfl | go_num, by go_num⟩
                    case measure => simp [intOf]; omega
                  · have hik : k = i := by omega
                    have HZ2 : Hid (mf xs i (k + 1) = z) := by show _ = _; have h9 := HZ.out; rw [hik] at h9 ⊢; rw [mf_eq]; exact h9
                    have d3 : ¬ (k : Int) < (i : Int) := by omega
                    have d4 : ¬ (i : Int) < (k : Int) := by omega
                    clear HZ hik
                    go_wp2
                    go_round
                    case rel => exact ⟨k + 1, z, h3, HZ2, by first | rfl | go_num, by go_num⟩
                    case measure => simp [intOf]; omega
              · have hkk : k = xs.length := by omega
                have hzF : midF xs i = z := by rw [← HZ.out, hkk, mf_all h2]
                have HMs : Hid (midS xs i = x - max x (max z (-z))) := by
                  show _ = _
                  unfold midS
                  rw [hzF, show xs.getD i 0 = x by simp [List.getD, HXi.out]]
                have HTk : Hid (((List.range xs.length).map (midS xs)).take (i + 1) = L ++ [midS xs i]) := by
                  show _ = _
                  rw [← HLs.out, List.take_add_one]
                  simp [h2]
                clear HZ hzF
                have HOA : Hid (∀ O, Ow (wo.alloc O) w.heap.size (.slice pa i pc) L) := fun O => HO.out.keep (ba _ _)
                by_cases cz : z < 0
                · by_cases cc : -z < x
                  · have hval : midS xs i = 0 := by rw [HMs.out]; omega
                    obtain ⟨M, hM⟩ : ∃ M, L ++ [0] = M := ⟨_, rfl⟩
                    have HTk2 : Hid (((List.range xs.length).map (midS xs)).take (i + 1) = M) := by show _ = _; rw [HTk.out, hval, hM]
                    clear HMs HTk hval
                    go_wp2_with (at_builtin; refine wpList_ow _ rfl _ _ rfl w.heap.size (wo.heap.size + 1) i pa pc L [0] M rfl hol (HOA.out _) (.slice (some ⟨wo.heap.size, 0, none⟩) 1 1) rfl (num_one wo (0)) hM (by simp; omega) (by have := hbl.size; simp; omega) (i + 1) (by simp) ?_)
                    intro a2 c2 w2 hown _ hb2
                    have HB2 : Hid (Below w.heap.size w w2) := (bal hbl _).trans hb2
                    have HO2 : Hid (Ow w2 w.heap.size (.slice a2 (i + 1) c2) (((List.range xs.length).map (midS xs)).take (i + 1))) := by show Ow _ _ _ _; rw [HTk2.out]; exact hown
                    clear hown hb2 HOA HO HTk2 hM
                    go_wp2
                    go_roundw
                    case rel => exact ⟨i + 1, h2, by go_num, HO2, HB2.out⟩
                    case measure => simp [intOf]; omega
                  · have hval : midS xs i = x + z := by rw [HMs.out]; omega
                    obtain ⟨M, hM⟩ : ∃ M, L ++ [x + z] = M := ⟨_, rfl⟩
                    have HTk2 : Hid (((List.range xs.length).map (midS xs)).take (i + 1) = M) := by show _ = _; rw [HTk.out, hval, hM]
                    clear HMs HTk hval
                    go_wp2_with (at_builtin; refine wpList_ow _ rfl _ _ rfl w.heap.size (wo.heap.size + 1) i pa pc L [x + z] M rfl hol (HOA.out _) (.slice (some ⟨wo.heap.size, 0, none⟩) 1 1) rfl (num_one wo (x + z)) hM (by simp; omega) (by have := hbl.size; simp; omega) (i + 1) (by simp) ?_)
                    intro a2 c2 w2 hown _ hb2
                    have HB2 : Hid (Below w.heap.size w w2) := (bal hbl _).trans hb2
                    have HO2 : Hid (Ow w2 w.heap.size (.slice a2 (i + 1) c2) (((List.range xs.length).map (midS xs)).take (i + 1))) := by show Ow _ _ _ _; rw [HTk2.out]; exact hown
                    clear hown hb2 HOA HO HTk2 hM
                    go_wp2
                    go_roundw
                    case rel => exact ⟨i + 1, h2, by go_num, HO2, HB2.out⟩
                    case measure => simp [intOf]; omega
                · by_cases cc : z < x
                  · have hval : midS xs i = 0 := by rw [HMs.out]; omega
                    obtain ⟨M, hM⟩ : ∃ M, L ++ [0] = M := ⟨_, rfl⟩
                    have HTk2 : Hid (((List.range xs.length).map (midS xs)).take (i + 1) = M) := by show _ = _; rw [HTk.out, hval, hM]
                    clear HMs HTk hval
                    go_wp2_with (at_builtin; refine wpList_ow _ rfl _ _ rfl w.heap.size (wo.heap.size + 1) i pa pc L [0] M rfl hol (HOA.out _) (.slice (some ⟨wo.heap.size, 0, none⟩) 1 1) rfl (num_one wo (0)) hM (by simp; omega) (by have := hbl.size; simp; omega) (i + 1) (by simp) ?_)
                    intro a2 c2 w2 hown _ hb2
                    have HB2 : Hid (Below w.heap.size w w2) := (bal hbl _).trans hb2
                    have HO2 : Hid (Ow w2 w.heap.size (.slice a2 (i + 1) c2) (((List.range xs.length).map (midS xs)).take (i + 1))) := by show Ow _ _ _ _; rw [HTk2.out]; exact hown
                    clear hown hb2 HOA HO HTk2 hM
                    go_wp2
                    go_roundw
                    case rel => exact ⟨i + 1, h2, by go_num, HO2, HB2.out⟩
                    case measure => simp [intOf]; omega
                  · have hval : midS xs i = x - z := by rw [HMs.out]; omega
                    obtain ⟨M, hM⟩ : ∃ M, L ++ [x - z] = M := ⟨_, rfl⟩
                    have HTk2 : Hid (((List.range xs.length).map (midS xs)).take (i + 1) = M) := by show _ = _; rw [HTk.out, hval, hM]
                    clear HMs HTk hval
                    go_wp2_with (at_builtin; refine wpList_ow _ rfl _ _ rfl w.heap.size (wo.heap.size + 1) i pa pc L [x - z] M rfl hol (HOA.out _) (.slice (some ⟨wo.heap.size, 0, none⟩) 1 1) rfl (num_one wo (x - z)) hM (by simp; omega) (by have := hbl.size; simp; omega) (i + 1) (by simp) ?_)
                    intro a2 c2 w2 hown _ hb2
                    have HB2 : Hid (Below w.heap.size w w2) := (bal hbl _).trans hb2
                    have HO2 : Hid (Ow w2 w.heap.size (.slice a2 (i + 1) c2) (((List.range xs.length).map (midS xs)).take (i + 1))) := by show Ow _ _ _ _; rw [HTk2.out]; exact hown
                    clear hown hb2 HOA HO HTk2 hM
                    go_wp2
                    go_roundw
                    case rel => exact ⟨i + 1, h2, by go_num, HO2, HB2.out⟩
                    case measure => simp [intOf]; omega
          · have hii : i = xs.length := by omega
            have HF : Hid (Num wr wr.heap.size (.slice pa i pc) ys) := by
              have h3 := HO.out
              rw [← HLs.out, List.take_of_length_le (by simp; omega), HY.out] at h3
              exact h3.num (by rw [← HY.out]; simp; omega)
            clear HO
            go_wp2
            exact bodyPost_ret (v := .tuple #[.slice pa i pc, .int .i64 0]) (by simp [results, Try.results15, go_sem]) rfl ⟨_, rfl, HF.out, hbl⟩
end Go.Proofs.Ythmkbkombjhaeaa

namespace Go.Proofs.Ythmkbkombjhaeaa
open Go.RowKit Go.Proofs.Ythmkbkombjhaeaa.Ds

theorem weigh_alive : weighT 2 1 [1, 0] = ([([0], 2), ([1], 1)], 0) := by decide
theorem alive_any (w : World) : Calls Try.prog 17 #[] w fun x w' => x = .returned (.bool true) ∧ Below w.heap.size w w' := by
  have kw := weigh_any (w.heap.size + 1) 2 1 _ [1, 0] _ (num_two w 1 0) (by simp) _ 0 weigh_alive
  go_enter Try.func17, Try.ntmps17
  go_wp2_with fail
  refine kw.mono ?_
  rintro e w1 ⟨v1, us, rfl, h1, h2, h3, _⟩
  have hul : us.length = 2 := by
    have := congrArg List.length h1
    simpa [rd] using this
  obtain ⟨a1, c1, rfl⟩ := h2.slice
  rw [hul]
  have G1 := bt (ba _ _) h3
  clear kw h1 h2 hul
  go_wp2
  go_ret
  exact ⟨rfl, G1⟩
end Go.Proofs.Ythmkbkombjhaeaa
