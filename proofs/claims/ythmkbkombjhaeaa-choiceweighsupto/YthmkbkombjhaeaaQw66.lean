import Derived.Test.YthmkbkombjhaeaaQw40
import Derived.Test.YthmkbkombjhaeaaQw26
import Derived.Test.YthmkbkombjhaeaaQw64
namespace Go.Proofs.Ythmkbkombjhaeaa
open Go.RowKit Go.Proofs.Ythmkbkombjhaeaa.Ds

theorem weigh_alive : weighT 2 1 [1, 0] = ([([0], 2), ([1], 1)], 0) := by decide
theorem alive_any (w : World) : Calls Try.prog 17 #[] w fun x w' => x = .returned (.bool true) ∧ Below w.heap.size w w' := by
  have kw := weigh_any (w.heap.size + 1) 2 1 _ [1, 0] _ (num_two w 1 0) (by simp) _ 0 weigh_alive
  go_enter Try.func17, Try.ntmps17
  go_wp2_with fail
  refine kw.mono ?_
  rintro e w1 ⟨v1, us, rfl, h1, h2, h3, _⟩
  have hul : us.length = 2 := by
    have := congrArg List.length h1
    simpa [rd] using this
  obtain ⟨a1, c1, rfl⟩ := h2.slice
  rw [hul]
  have G1 := bt (ba _ _) h3
  clear kw h1 h2 hul
  go_wp2
  go_ret
  exact ⟨rfl, G1⟩
end Go.Proofs.Ythmkbkombjhaeaa

namespace Go.Proofs.Ythmkbkombjhaeaa
open Go.RowKit Go.Proofs.Ythmkbkombjhaeaa.Ds

theorem midT_ok {xs ys : List Int} (h : midT xs = (ys, 0)) : ys = (List.range xs.length).map (midS xs) ∧ (∀ x ∈ xs, 0 ≤ x ∧ x ≤ 4096) ∧ xs.length ≤ 4096 := by
  unfold midT at h
  by_cases c : midE xs = 0
  · rw [if_neg (by simpa using c)] at h
    simp only [Prod.mk.injEq, and_true] at h
    unfold midE at c
    split at c
    · rename_i ha
      rw [List.all_eq_true] at ha
      split at c
      · omega
      · exact ⟨h.symm, fun x hx => of_decide_eq_true (ha x hx), by omega⟩
    · omega
  · rw [if_pos (by simpa using c)] at h
    simp only [Prod.mk.injEq] at h
    exact absurd h.2 c
theorem mid_ge {xs : List Int} (h : ∀ x ∈ xs, 0 ≤ x ∧ x ≤ 4096) (hl : xs.length ≤ 4096) (i : Nat) : -16777216 ≤ midS xs i := by
  unfold midS midF
  have t1 := sum_bd (xs := xs.take i) fun x hx => h x (List.mem_of_mem_take hx)
  have t2 := sum_bd (xs := xs.drop (i + 1)) fun x hx => h x (List.mem_of_mem_drop hx)
  rw [List.length_take] at t1
  rw [List.length_drop] at t2
  have t3 : 0 ≤ xs.getD i 0 := by
    rw [List.getD_eq_getElem?_getD]
    cases hx : xs[i]? with
    | none => simp
    | some z => exact (h z (List.mem_of_getElem? hx)).1
  omega

theorem RowI.numC {w : World} {g : Nat} {xs : List Int} (h : RowI w g xs) (hl : xs.length ≤ 9223372036854775807) {c B : Nat} (hc : xs.length ≤ c) (hB : g < B) : Num w B (.slice (some ⟨g, 0, none⟩) xs.length c) xs :=
  ⟨_, _, rfl, hc, hl, fun _ => ⟨g, 0, rfl, hB, fun i x hi => by rw [Nat.zero_add]; exact h.cells i x hi⟩⟩

set_option maxHeartbeats 2000000 in
set_option maxRecDepth 100000 in
theorem choiceMiddle_walk (B : Nat) (v : Value) (at' : Int) (xs : List Int) (w : World) (hB : B ≤ w.heap.size) (hx : Num w B v xs) (hlen : xs.length ≤ 17592186044416) :
    Calls Try.prog 6 #[v, .int .i64 at'] w fun e w' => e = .returned (.bool true) ∧ Below w.heap.size w w' := by
  have HN : Hid (Num w B v xs) := hx
  obtain ⟨a, c, rfl, hc, hl, _⟩ := hx
  have ka := alive_any w
  by_cases c1 : at' < 0
  · go_enter Try.func6, Try.ntmps6
    go_wp2_with fail
    refine ka.mono ?_
    rintro e w1 ⟨rfl, hb1⟩
    clear ka
    go_wp2
    go_ret
    exact ⟨rfl, hb1⟩
  · by_cases c2 : (xs.length : Int) ≤ at'
    · go_enter Try.func6, Try.ntmps6
      go_wp2_with fail
      refine ka.mono ?_
      rintro e w1 ⟨rfl, hb1⟩
      clear ka
      go_wp2
      go_ret
      exact ⟨rfl, hb1⟩
    · obtain ⟨k, rfl⟩ : ∃ k : Nat, at' = (k : Int) := ⟨at'.toNat, by omega⟩
      have hk : k < xs.length := by omega
      obtain ⟨x, hxk⟩ := get_lt hk
      have HXk : Hid (xs[k]? = some x) := hxk
      clear hxk
      go_enter Try.func6, Try.ntmps6
      go_wp2_with fail
      refine ka.mono ?_
      rintro e w1 ⟨rfl, hb1⟩
      clear ka
      have HOW : Hid ((w1.alloc (.cells #[] 3)).ownsRow w1.heap.size 3 1 (.slice (some ⟨w1.heap.size, 0, none⟩) 0 0) 0 (([] : List Int).map (Value.int .i64))) := owns_zero w1 w1.heap.size (Nat.le_refl _)
      have HXW : Hid (Num (w1.alloc (.cells #[] 3)) B (.slice a xs.length c) xs) := (HN.out.at hB hb1).at (by have := hb1.size; omega) (ba _ _)
      go_wp2_with (at_builtin; refine wpList_app_nums _ rfl _ _ rfl w1.heap.size B 0 (some ⟨w1.heap.size, 0, none⟩) 0 [] xs rfl HOW.out (.slice a xs.length c) rfl HXW.out (by omega) (by simp) xs.length (by omega) ?_)
      intro a2 c2 w2 hown hgrow hat
      have hb2 : Below w1.heap.size w1 w2 := (ba _ _).grown hgrow (by simp) (by intro k hk; simp [Value.ownBlock] at hk; omega)
      obtain ⟨g, cap, hv2, hcap, hg, hrow⟩ := rowi_of_owns (xs := [] ++ xs) (by simp) hown (owns_some hown (by omega))
      simp only [List.nil_append] at hv2 hcap hrow
      simp only [Value.slice.injEq] at hv2
      obtain ⟨rfl, -, rfl⟩ := hv2
      have HRow : Hid (RowI w2 g xs) := hrow
      have r1 := hrow.cells k x HXk.out
      have r2 := hrow.thaw k hk
      have rlt := hrow.lt
      obtain ⟨y, hy⟩ : ∃ y, IntKind.i64.wrap (x + 1) = y := ⟨_, rfl⟩
      have HY : Hid (IntKind.i64.wrap (x + 1) = y) := hy
      have G2 := bt hb1 hb2
      obtain ⟨⟨ya, ea⟩, hma⟩ : ∃ z, midT xs = z := ⟨_, rfl⟩
      obtain ⟨⟨yb, eb⟩, hmb⟩ : ∃ z, midT (xs.set k y) = z := ⟨_, rfl⟩
      have hrow3 := hrow.set k y
      have HB3 : Hid (Below w1.heap.size w1 (w2.setCell ⟨g, k, none⟩ (.int .i64 y))) := bs hb2 hg _
      have HN3 : Hid (Num (w2.setCell ⟨g, k, none⟩ (.int .i64 y)) B (.slice a xs.length c) xs) := (HN.out.at hB hb1).at (by have := hb1.size; omega) HB3.out
      have HO3 : Hid (Num (w2.setCell ⟨g, k, none⟩ (.int .i64 y)) (w2.setCell ⟨g, k, none⟩ (.int .i64 y)).heap.size (.slice (some ⟨g, 0, none⟩) xs.length c2) (xs.set k y)) := by
        have := hrow3.numC (by simp; omega) (c := c2) (by simpa using hcap) hrow3.lt
        rw [List.length_set] at this
        exact this
      have sz3 : B ≤ (w2.setCell ⟨g, k, none⟩ (.int .i64 y)).heap.size := by have := HB3.out.size; have := hb1.size; omega
      have k1 := middle_any B _ xs _ HN3.out sz3 ya ea hma
      have HMa : Hid (midT xs = (ya, ea)) := hma
      have HMb : Hid (midT (xs.set k y) = (yb, eb)) := hmb
      have G3 := bt hb1 HB3.out
      clear hown hgrow hat hrow HOW HXW hb2 hrow3 hma hmb
      go_wp2_with fail
      refine k1.mono ?_
      rintro e w4 ⟨va, rfl, hna, hb4⟩
      clear k1
      have G4 := bt G3 hb4
      have k2 := middle_any _ _ (xs.set k y) w4 (HO3.out.at (Nat.le_refl _) hb4) hb4.size yb eb HMb.out
      obtain ⟨aa, ca, rfl, hca, hla, _⟩ := id hna
      have HNa : Hid (Num w4 w4.heap.size (.slice aa ya.length ca) ya) := hna
      clear hna
      go_wp2_with fail
      refine k2.mono ?_
      rintro e w5 ⟨vb, rfl, hnb, hb5⟩
      clear k2
      have G5 := bt G4 hb5
      obtain ⟨ab, cb, rfl, hcb, hlb, _⟩ := id hnb
      have HNb : Hid (Num w5 w5.heap.size (.slice ab yb.length cb) yb) := hnb
      have HNa5 : Hid (Num w5 w4.heap.size (.slice aa ya.length ca) ya) := HNa.out.keep hb5
      clear hnb
      by_cases e1 : ea = 0
      · subst e1
        by_cases e2 : eb = 0
        · subst e2
          obtain ⟨m1, m2, m3⟩ := midT_ok HMa.out
          obtain ⟨n1, n2, n3⟩ := midT_ok HMb.out
          have hyy : y = x + 1 := by
            have := m2 x (List.mem_of_getElem? HXk.out)
            have := HY.out
            rw [IntKind.wrap_i64] at this
            omega
          have hla2 : ya.length = xs.length := by rw [m1]; simp
          have hlb2 : yb.length = xs.length := by rw [n1]; simp
          have HNE : Hid (∀ (i : Nat) (p q : Int), ya[i]? = some p → yb[i]? = some q → -16777216 ≤ p ∧ p ≤ 0 ∧ -16777216 ≤ q ∧ q ≤ 0 ∧ p - q ≤ 1 ∧ q - p ≤ 1) := by
            intro i p q hp hq
            have hi : i < xs.length := by have := (List.getElem?_eq_some_iff.1 hp).1; omega
            rw [m1] at hp
            rw [n1] at hq
            simp [hi] at hp hq
            have e3 : xs.set k y = xs.set k (xs.getD k 0 + 1) := by
              rw [hyy, show xs.getD k 0 = x by simp [List.getD, HXk.out]]
            have h4 := mid_near xs k hk i
            rw [← e3, hp, hq] at h4
            have h5 := mid_le xs i
            have h6 := mid_le (xs.set k y) i
            have h7 := mid_ge m2 m3 i
            have h8 := mid_ge n2 n3 i
            rw [hp] at h5 h7
            rw [hq] at h6 h8
            omega
          have HNb5 : Hid (Num w5 w5.heap.size (.slice ab xs.length cb) yb) := by have := HNb.out; rwa [hlb2] at this
          have HNa6 : Hid (Num w5 w4.heap.size (.slice aa xs.length ca) ya) := by have := HNa5.out; rwa [hla2] at this
          have HLa : Hid (ya.length = xs.length) := hla2
          have HLb : Hid (yb.length = xs.length) := hlb2
          rw [hla2, hlb2]
          clear m1 m2 m3 n1 n2 n3 hyy hla2 hlb2 HNa HNb HNa5 hla hlb hca hcb HO3 HN3 r1 r2 HB3 hy
          go_wp2
          go_loopw [62] (fun iv wr => ∃ i : Nat, i ≤ xs.length ∧ iv = .int .i64 (i : Int) ∧ ∃ q, wr = w5.drewN q) (fun iv _ => xs.length - (intOf iv).toNat)
          case atStart => exact ⟨0, Nat.zero_le _, rfl, 0, rfl⟩
          case round =>
            obtain ⟨i, hi, rfl, q, rfl⟩ := hrel
            by_cases h1 : i < xs.length
            · obtain ⟨b1, o1, c1', p, he1, hcc1, _, hp, hcp⟩ := HNa6.out.get (i := i) (by rw [HLa.out]; exact h1)
              obtain ⟨b2, o2, c2', q2, he2, hcc2, _, hq, hcq⟩ := HNb5.out.get (i := i) (by rw [HLb.out]; exact h1)
              simp only [Value.slice.injEq] at he1 he2
              obtain ⟨rfl, -, rfl⟩ := he1
              obtain ⟨rfl, -, rfl⟩ := he2
              obtain ⟨p0, p1, q0, q1, d1, d2⟩ := HNE.out i p q2 hp hq
              have f1 : decide (1 < p - q2) = false := by simp; omega
              have f2 : decide (1 < q2 - p) = false := by simp; omega
              have f3 : decide (0 < p) = false := by simp; omega
              rw [HLa.out] at hcc1
              rw [HLb.out] at hcc2
              clear hp hq
              go_wp2
              go_quiet (fail)
              go_wp2
              go_roundw
              case rel => exact ⟨i + 1, h1, by go_num, _, by first | rfl | exact (dr1 _ _ _).choose_spec⟩
              case measure => simp [intOf]; omega
            · go_wp2
              go_ret
              exact ⟨rfl, below_drewN G5 _⟩
        · have e3 : (eb == 0) = false := by simpa using e2
          have e4 : (eb != 0) = true := by simpa using e2
          clear HMa HMb HNa HNb HNa5
          go_wp2
          go_ret
          exact ⟨rfl, G5⟩
      · have e3 : (ea == 0) = false := by simpa using e1
        have e4 : (ea != 0) = true := by simpa using e1
        clear HMa HMb HNa HNb HNa5
        go_wp2
        go_ret
        exact ⟨rfl, G5⟩
end Go.Proofs.Ythmkbkombjhaeaa
