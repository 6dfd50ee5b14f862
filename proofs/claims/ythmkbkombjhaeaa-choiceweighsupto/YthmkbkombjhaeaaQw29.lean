import Derived.Test.YthmkbkombjhaeaaQw21
import Derived.Test.YthmkbkombjhaeaaQw28
import Derived.Test.YthmkbkombjhaeaaQw22
namespace Go.Proofs.Ythmkbkombjhaeaa
open Go.RowKit Go.Proofs.Ythmkbkombjhaeaa.Ds

/-- the best of those ahead of k, and of the first -/
def bst (l : List Int) (k : Nat) : Int := mxI (l.take (max k 1))
theorem bst_zero {l : List Int} {x : Int} (h : l[0]? = some x) : bst l 0 = x := mxI_one h
theorem bst_step {l : List Int} {k : Nat} {x : Int} (h : l[k]? = some x) : bst l (k + 1) = max (bst l k) x := by
  unfold bst
  by_cases c : k = 0
  · subst c
    rw [show max (0 + 1) 1 = 1 by omega, show max 0 1 = 1 by omega, mxI_one h]
    omega
  · rw [show max (k + 1) 1 = k + 1 by omega, show max k 1 = k by omega, mxI_take (by omega) h]
theorem bst_all {l : List Int} {k : Nat} (h1 : 1 ≤ l.length) (hk : l.length ≤ k) : bst l k = mxI l := by
  unfold bst
  rw [List.take_of_length_le (by omega)]
/-- none of those ahead of k is too far below -/
def Clo (l : List Int) (k : Nat) : Prop := ∀ n ∈ l.take k, mxI l - n ≤ 64

set_option maxHeartbeats 2000000 in
set_option maxRecDepth 100000 in
theorem rbelow_any (B : Nat) (u d : Int) (v : Value) (l : List Int) (w : World) (h : Num w B v l) (hB : B ≤ w.heap.size) (er : Int) (hr : choE u d l = er) (fs : List Int) (hfs : (if er = 0 then farI l else []) = fs) :
    Calls Try.prog 27 #[rv u d, v] w fun e w' => ∃ v', e = .returned (.tuple #[v', .int .i64 er]) ∧ Num w' w'.heap.size v' fs ∧ Below w.heap.size w w' := by
  have HN : Hid (Num w B v l) := h
  have HR : Hid (choE u d l = er) := hr
  have HFS : Hid ((if er = 0 then farI l else []) = fs) := hfs
  obtain ⟨a, c, rfl, hc, hl, _⟩ := h
  have nnil : ∀ u : World, Num u u.heap.size (.slice none 0 0) [] := fun u => ⟨none, 0, rfl, Nat.le_refl _, by simp, fun h => absurd rfl h⟩
  obtain ⟨b, hb⟩ : ∃ b, Rt.rightB u d = b := ⟨_, rfl⟩
  have kr := refRight_any u d b hb
  clear hr hfs
  cases b with
  | false =>
    have he : er = 2 := by rw [← HR.out]; unfold choE; rw [hb]; rfl
    subst he
    obtain rfl : [] = fs := HFS.out
    clear HR hb HFS
    go_enter Try.func27, Try.ntmps27
    go_wp2_with fail
    refine (kr _).mono ?_
    rintro e w1 ⟨rfl, hb1⟩
    have G1 := bt (ba _ _) hb1
    go_wp2
    exact bodyPost_ret (v := .tuple #[.slice none 0 0, .int .i64 2]) (by simp [results, Try.results27, go_sem]) rfl ⟨_, rfl, nnil _, G1⟩
  | true =>
    by_cases c1 : u < d
    · have he : er = 3 := by rw [← HR.out]; unfold choE; rw [hb, if_pos rfl, if_pos c1]
      subst he
      obtain rfl : [] = fs := HFS.out
      clear HR hb HFS
      go_enter Try.func27, Try.ntmps27
      go_wp2_with fail
      refine (kr _).mono ?_
      rintro e w1 ⟨rfl, hb1⟩
      have G1 := bt (ba _ _) hb1
      obtain ⟨hc1, hf1⟩ := bcell hb1
      go_wp2
      exact bodyPost_ret (v := .tuple #[.slice none 0 0, .int .i64 3]) (by simp [results, Try.results27, go_sem]) rfl ⟨_, rfl, nnil _, G1⟩
    · by_cases c2 : l.length < 1 ∨ 8 < l.length
      · have he : er = 5 := by rw [← HR.out]; unfold choE; rw [hb, if_pos rfl, if_neg c1, if_pos c2]
        subst he
        obtain rfl : [] = fs := HFS.out
        clear HR hb HFS
        by_cases c3 : l.length < 1
        · go_enter Try.func27, Try.ntmps27
          go_wp2_with fail
          refine (kr _).mono ?_
          rintro e w1 ⟨rfl, hb1⟩
          have G1 := bt (ba _ _) hb1
          obtain ⟨hc1, hf1⟩ := bcell hb1
          go_wp2
          exact bodyPost_ret (v := .tuple #[.slice none 0 0, .int .i64 5]) (by simp [results, Try.results27, go_sem]) rfl ⟨_, rfl, nnil _, G1⟩
        · have c4 : 8 < l.length := by omega
          go_enter Try.func27, Try.ntmps27
          go_wp2_with fail
          refine (kr _).mono ?_
          rintro e w1 ⟨rfl, hb1⟩
          have G1 := bt (ba _ _) hb1
          obtain ⟨hc1, hf1⟩ := bcell hb1
          go_wp2
          exact bodyPost_ret (v := .tuple #[.slice none 0 0, .int .i64 5]) (by simp [results, Try.results27, go_sem]) rfl ⟨_, rfl, nnil _, G1⟩
      · have l1 : 1 ≤ l.length := by omega
        have l8 : l.length ≤ 8 := by omega
        have e0 : ¬ (l.length : Int) < 1 := by omega
        have e8 : ¬ (8 : Int) < (l.length : Int) := by omega
        have HB2 : Hid (Rt.rightB u d = true) := hb
        obtain ⟨x0, hx0⟩ := get_lt (l := l) (i := 0) (by omega)
        have HX0 : Hid (l[0]? = some x0) := hx0
        have l0 : 0 < l.length := by omega
        clear hb c2 hx0
        go_enter Try.func27, Try.ntmps27
        go_wp2_with fail
        refine (kr _).mono ?_
        rintro e w1 ⟨rfl, hb1⟩
        have G1 := bt (ba _ _) hb1
        obtain ⟨hc1, hf1⟩ := bcell hb1
        clear kr
        have HN1 : Hid (Num w1 B (.slice a l.length c) l) := HN.out.at hB G1
        obtain ⟨b0, o0, c0, x0', he0, _, _, hx0', hcx0⟩ := HN1.out.get (i := 0) (by omega)
        simp only [Value.slice.injEq] at he0
        obtain ⟨rfl, -, rfl⟩ := he0
        have hxe : x0' = x0 := by have := HX0.out; rw [hx0'] at this; simpa using this
        subst hxe
        simp only [Nat.add_zero] at hcx0
        clear hx0'
        go_wp2
        clear hc1 hf1 hb1
        go_loop [6, 33] (fun m i => ∃ (k : Nat) (z : Int), k ≤ l.length ∧ Hid (Non l k) ∧ Hid (bst l k = z) ∧ m = .int .i64 z ∧ i = .int .i64 (k : Int)) (fun _ i => l.length - (intOf i).toNat)
        case atStart => exact ⟨0, x0', Nat.zero_le _, rfl, bst_zero HX0.out, rfl, rfl⟩
        case round =>
          obtain ⟨k, z, hk, HK, HZ, rfl, rfl⟩ := hrel
          by_cases h1 : k < l.length
          · obtain ⟨b1, o1, c1', x, he1, _, _, hx, hcx⟩ := HN1.out.get h1
            simp only [Value.slice.injEq, Option.some.injEq, Addr.mk.injEq] at he1
            obtain ⟨⟨rfl, rfl, -⟩, -, rfl⟩ := he1
            have HX : Hid (l[k]? = some x) := hx
            clear hx
            by_cases g1 : 1073741824 < x
            · have he : er = 3 := by rw [← HR.out]; exact cho_bad HB2.out (by omega) l1 l8 (Non.hit HX.out (by simp [badB]; omega))
              subst he
              obtain rfl : [] = fs := HFS.out
              clear HR HFS HK HZ HB2
              go_wp2
              exact bodyPost_ret (v := .tuple #[.slice none 0 0, .int .i64 3]) (by simp [results, Try.results27, go_sem]) rfl ⟨_, rfl, nnil _, G1⟩
            · by_cases g2 : x < -1073741824
              · have he : er = 3 := by rw [← HR.out]; exact cho_bad HB2.out (by omega) l1 l8 (Non.hit HX.out (by simp [badB]; omega))
                subst he
                obtain rfl : [] = fs := HFS.out
                clear HR HFS HK HZ HB2
                go_wp2
                exact bodyPost_ret (v := .tuple #[.slice none 0 0, .int .i64 3]) (by simp [results, Try.results27, go_sem]) rfl ⟨_, rfl, nnil _, G1⟩
              · have HK2 : Hid (Non l (k + 1)) := HK.out.step HX.out (by simp [badB]; omega)
                have hs := bst_step HX.out
                rw [HZ.out] at hs
                by_cases g3 : z < x
                · have HZ2 : Hid (bst l (k + 1) = x) := by show _ = _; omega
                  clear hs HZ
                  go_wp2
                  go_round
                  case rel => exact ⟨k + 1, x, h1, HK2, HZ2, rfl, by go_num⟩
                  case measure => simp [intOf]; omega
                · have HZ2 : Hid (bst l (k + 1) = z) := by show _ = _; omega
                  clear hs HZ
                  go_wp2
                  go_round
                  case rel => exact ⟨k + 1, z, h1, HK2, HZ2, rfl, by go_num⟩
                  case measure => simp [intOf]; omega
          · have hq := HK.out.all (by omega)
            have hz := HZ.out
            rw [bst_all l1 (by omega)] at hz
            have HMx : Hid (mxI l = z) := hz
            have HA : Hid (∀ n ∈ l, -1073741824 ≤ n ∧ n ≤ 1073741824) := cho_all hq
            have hne : l ≠ [] := by intro e; rw [e] at l1; simp at l1
            have hbb := HA.out _ (mxI_mem hne)
            rw [hz] at hbb
            obtain ⟨z0, z1⟩ := hbb
            have HE : Hid ((if 64 < mxI (farI l) then (3 : Int) else 0) = er) := by show _ = _; rw [← HR.out, cho_rest HB2.out (by omega) l1 l8 hq]
            have HLe : Hid (∀ n ∈ l, n ≤ z) := by rw [← hz]; exact fun n hn => mxI_le hn
            clear HR HB2 hq hz hne HK HZ
            go_wp2
            go_loopw [9, 50] (fun pv iv wr => ∃ (i : Nat), i ≤ l.length ∧ iv = .int .i64 (i : Int) ∧ Hid (Clo l i) ∧ Hid (Ow wr w1.heap.size pv ((farI l).take i)) ∧ Below w1.heap.size w1 wr) (fun _ iv _ => l.length - (intOf iv).toNat)
            case atStart => exact ⟨0, Nat.zero_le _, rfl, fun n hn => by simp at hn, by show Ow _ _ _ _; rw [List.take_zero]; exact Ow.nil _ _, Below.refl _ _⟩
            case round =>
              obtain ⟨i, hi, rfl, HC, HO, hbl⟩ := hrel
              obtain ⟨L, hL⟩ : ∃ L, (farI l).take i = L := ⟨_, rfl⟩
              have hol : L.length = i := by rw [← hL, List.length_take, farI_len]; omega
              have HLs : Hid ((farI l).take i = L) := hL
              rw [hL] at HO
              clear hL
              obtain ⟨pa, pc, hpv⟩ := HO.out.slice
              rw [hol] at hpv
              subst hpv
              by_cases h2 : i < l.length
              · obtain ⟨b1, o1, c1', x, he1, _, _, hx, hcx⟩ := (HN1.out.at (by have := G1.size; omega) hbl).get h2
                simp only [Value.slice.injEq, Option.some.injEq, Addr.mk.injEq] at he1
                obtain ⟨⟨rfl, rfl, -⟩, -, rfl⟩ := he1
                obtain ⟨x0, x1⟩ := HA.out x (List.mem_of_getElem? hx)
                have x2 := HLe.out x (List.mem_of_getElem? hx)
                have HX : Hid (l[i]? = some x) := hx
                clear hx
                by_cases g1 : 64 < z - x
                · have he : er = 3 := by
                    rw [← HE.out, if_pos]
                    have hnf : farI l ≠ [] := by intro e; have := congrArg List.length e; rw [farI_len] at this; simp at this; simp [this] at l1
                    by_cases h : 64 < mxI (farI l)
                    · exact h
                    · have h3 := (mxI_iff hnf 64).1 (by omega) (z - x) (List.mem_map.2 ⟨x, List.mem_of_getElem? HX.out, by rw [HMx.out]⟩)
                      omega
                  subst he
                  obtain rfl : [] = fs := HFS.out
                  have G2 := bt G1 hbl
                  clear HE HFS HC HO HLs
                  go_wp2
                  exact bodyPost_ret (v := .tuple #[.slice none 0 0, .int .i64 3]) (by simp [results, Try.results27, go_sem]) rfl ⟨_, rfl, nnil _, G2⟩
                · have HC2 : Hid (Clo l (i + 1)) := by
                    intro n hn
                    rw [List.take_add_one, HX.out] at hn
                    rcases List.mem_append.1 hn with hn | hn
                    · exact HC.out n hn
                    · simp at hn
                      subst hn
                      rw [HMx.out]
                      omega
                  have HOA : Hid (∀ O, Ow (wr.alloc O) w1.heap.size (.slice pa i pc) L) := fun O => HO.out.keep (ba _ _)
                  obtain ⟨M, hM⟩ : ∃ M, L ++ [z - x] = M := ⟨_, rfl⟩
                  have HTk : Hid ((farI l).take (i + 1) = M) := by
                    show _ = _
                    rw [List.take_add_one, HLs.out, ← hM]
                    simp [farI, HX.out, HMx.out]
                  clear HC HLs
                  go_wp2_with (at_builtin; refine wpList_ow _ rfl _ _ rfl w1.heap.size (wr.heap.size + 1) i pa pc L [z - x] M rfl hol (HOA.out _) (.slice (some ⟨wr.heap.size, 0, none⟩) 1 1) rfl (num_one wr (z - x)) hM (by simp; omega) (by have := hbl.size; simp; omega) (i + 1) (by simp) ?_)
                  intro a2 c2 w2 hown _ hb2
                  have HB2 : Hid (Below w1.heap.size w1 w2) := (bal hbl _).trans hb2
                  have HO2 : Hid (Ow w2 w1.heap.size (.slice a2 (i + 1) c2) ((farI l).take (i + 1))) := by show Ow _ _ _ _; rw [HTk.out]; exact hown
                  clear hown hb2 HOA HO HTk hM
                  go_wp2
                  go_roundw
                  case rel => exact ⟨i + 1, h2, by go_num, HC2, HO2, HB2.out⟩
                  case measure => simp [intOf]; omega
              · have he : er = 0 := by
                  rw [← HE.out, if_neg]
                  have hnf : farI l ≠ [] := by intro e; have := congrArg List.length e; rw [farI_len] at this; simp at this; simp [this] at l1
                  have h3 := (mxI_iff hnf 64).2 (by
                    intro n hn
                    obtain ⟨m, hm, rfl⟩ := List.mem_map.1 hn
                    exact HC.out m (by rw [List.take_of_length_le (by omega)]; exact hm))
                  omega
                subst he
                have hff := HFS.out
                rw [if_pos rfl] at hff
                have HF : Hid (Num wr wr.heap.size (.slice pa i pc) fs) := by
                  have h3 := HO.out
                  rw [← HLs.out, List.take_of_length_le (by rw [farI_len]; omega), hff] at h3
                  exact h3.num (by rw [← hff, farI_len]; omega)
                have G2 := bt G1 hbl
                clear HO HE HFS HC HLs hff
                go_wp2
                exact bodyPost_ret (v := .tuple #[.slice pa i pc, .int .i64 0]) (by simp [results, Try.results27, go_sem]) rfl ⟨_, rfl, HF.out, G2⟩
end Go.Proofs.Ythmkbkombjhaeaa

namespace Go.Proofs.Ythmkbkombjhaeaa
open Go.RowKit Go.Proofs.Ythmkbkombjhaeaa.Ds

/-- the reference's product, up to a limit -/
theorem rprod_any (a b : Int) (ha : Fac a) (hb : Fac b) (w : World) :
    Calls Try.prog 28 #[.int .i64 a, .int .i64 b] w fun e w' => e = .returned (.int .i64 (lim (a * b))) ∧ w' = w := by
  obtain ⟨a0, a1⟩ := ha
  obtain ⟨b0, b1⟩ := hb
  have p0 : 0 ≤ a * b := Int.mul_nonneg (by omega) (by omega)
  have p1 : a * b ≤ 1073741825 * 1073741825 := Int.mul_le_mul a1 b1 (by omega) (by omega)
  obtain ⟨P, hP⟩ : ∃ P, a * b = P := ⟨_, rfl⟩
  by_cases c1 : 1073741824 < a
  · have hl : lim P = 1073741825 := by
      rw [lim_over]
      have := Int.mul_le_mul (show (1073741825 : Int) ≤ a by omega) b0 (by omega) (by omega)
      omega
    rw [hP, hl]
    go_enter Try.func28, Try.ntmps28
    go_wp2
    go_ret
    exact ⟨rfl, rfl⟩
  · by_cases c2 : 1073741824 < b
    · have hl : lim P = 1073741825 := by
        rw [lim_over]
        have := Int.mul_le_mul a0 (show (1073741825 : Int) ≤ b by omega) (by omega) (by omega)
        omega
      rw [hP, hl]
      go_enter Try.func28, Try.ntmps28
      go_wp2
      go_ret
      exact ⟨rfl, rfl⟩
    · by_cases c3 : 1073741824 < P
      · have hl : lim P = 1073741825 := lim_over (by omega)
        rw [hP, hl]
        rw [hP] at p0 p1
        go_enter Try.func28, Try.ntmps28
        go_wp2
        go_ret
        exact ⟨rfl, rfl⟩
      · have hl : lim P = P := lim_of (by omega)
        rw [hP, hl]
        rw [hP] at p0 p1
        go_enter Try.func28, Try.ntmps28
        go_wp2
        go_ret
        exact ⟨rfl, rfl⟩
end Go.Proofs.Ythmkbkombjhaeaa
