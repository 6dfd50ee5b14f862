import Derived.Test.YthmkbkombjhaeaaQw21
import Derived.Test.YthmkbkombjhaeaaQw11
import Derived.Test.YthmkbkombjhaeaaQw51
import Derived.Test.YthmkbkombjhaeaaQw33
import Derived.Test.YthmkbkombjhaeaaQw31
import Derived.Test.YthmkbkombjhaeaaQw35
import Derived.Test.YthmkbkombjhaeaaQw49
import Derived.Test.YthmkbkombjhaeaaQw50
import Derived.Test.YthmkbkombjhaeaaQw27
namespace Go.Proofs.Ythmkbkombjhaeaa
open Go.RowKit Go.Proofs.Ythmkbkombjhaeaa.Ds

theorem midT_ok {xs ys : List Int} (h : midT xs = (ys, 0)) : ys = (List.range xs.length).map (midS xs) ∧ (∀ x ∈ xs, 0 ≤ x ∧ x ≤ 4096) ∧ xs.length ≤ 4096 := by
  unfold midT at h
  by_cases c : midE xs = 0
  · rw [if_neg (by simpa using c)] at h
    simp only [Prod.mk.injEq, and_true] at h
    unfold midE at c
    split at c
    · rename_i ha
      rw [List.all_eq_true] at ha
      split at c
      · omega
      · exact ⟨h.symm, fun x hx => of_decide_eq_true (ha x hx), by omega⟩
    · omega
  · rw [if_pos (by simpa using c)] at h
    simp only [Prod.mk.injEq] at h
    exact absurd h.2 c
theorem mid_ge {xs : List Int} (h : ∀ x ∈ xs, 0 ≤ x ∧ x ≤ 4096) (hl : xs.length ≤ 4096) (i : Nat) : -16777216 ≤ midS xs i := by
  unfold midS midF
  have t1 := sum_bd (xs := xs.take i) fun x hx => h x (List.mem_of_mem_take hx)
  have t2 := sum_bd (xs := xs.drop (i + 1)) fun x hx => h x (List.mem_of_mem_drop hx)
  rw [List.length_take] at t1
  rw [List.length_drop] at t2
  have t3 : 0 ≤ xs.getD i 0 := by
    rw [List.getD_eq_getElem?_getD]
    cases hx : xs[i]? with
    | none => simp
    | some z => exact (h z (List.mem_of_getElem? hx)).1
  omega

theorem RowI.numC {w : World} {g : Nat} {xs : List Int} (h : RowI w g xs) (hl : xs.length ≤ 9223372036854775807) {c B : Nat} (hc : xs.length ≤ c) (hB : g < B) : Num w B (.slice (some ⟨g, 0, none⟩) xs.length c) xs :=
  ⟨_, _, rfl, hc, hl, fun _ => ⟨g, 0, rfl, hB, fun i x hi => by rw [Nat.zero_add]; exact h.cells i x hi⟩⟩

set_option maxHeartbeats 2000000 in
set_option maxRecDepth 100000 in
theorem choiceMiddle_walk (B : Nat) (v : Value) (at' : Int) (xs : List Int) (w : World) (hB : B ≤ w.heap.size) (hx : Num w B v xs) (hlen : xs.length ≤ 17592186044416) :
    Calls Try.prog 6 #[v, .int .i64 at'] w fun e w' => e = .returned (.bool true) ∧ Below w.heap.size w w' := by
  have HN : Hid (Num w B v xs) := hx
  obtain ⟨a, c, rfl, hc, hl, _⟩ := hx
  have ka := alive_any w
  by_cases c1 : at' < 0
  · go_enter Try.func6, Try.ntmps6
    go_wp2_with fail
    refine ka.mono ?_
    rintro e w1 ⟨rfl, hb1⟩
    clear ka
    go_wp2
    go_ret
    exact ⟨rfl, hb1⟩
  · by_cases c2 : (xs.length : Int) ≤ at'
    · go_enter Try.func6, Try.ntmps6
      go_wp2_with fail
      refine ka.mono ?_
      rintro e w1 ⟨rfl, hb1⟩
      clear ka
      go_wp2
      go_ret
      exact ⟨rfl, hb1⟩
    · obtain ⟨k, rfl⟩ : ∃ k : Nat, at' = (k : Int) := ⟨at'.toNat, by omega⟩
      have hk : k < xs.length := by omega
      obtain ⟨x, hxk⟩ := get_lt hk
      have HXk : Hid (xs[k]? = some x) := hxk
      clear hxk
      go_enter Try.func6, Try.ntmps6
      go_wp2_with fail
      refine ka.mono ?_
      rintro e w1 ⟨rfl, hb1⟩
      clear ka
      have HOW : Hid ((w1.alloc (.cells #[] 3)).ownsRow w1.heap.size 3 1 (.slice (some ⟨w1.heap.size, 0, none⟩) 0 0) 0 (([] : List Int).map (Value.int .i64))) := owns_zero w1 w1.heap.size (Nat.le_refl _)
      have HXW : Hid (Num (w1.alloc (.cells #[] 3)) B (.slice a xs.length c) xs) := (HN.out.at hB hb1).at (by have := hb1.size; omega) (ba _ _)
      go_wp2_with (at_builtin; refine wpList_app_nums _ rfl _ _ rfl w1.heap.size B 0 (some ⟨w1.heap.size, 0, none⟩) 0 [] xs rfl HOW.out (.slice a xs.length c) rfl HXW.out (by omega) (by simp) xs.length (by omega) ?_)
      intro a2 c2 w2 hown hgrow hat
      have hb2 : Below w1.heap.size w1 w2 := (ba _ _).grown hgrow (by simp) (by intro k hk; simp [Value.ownBlock] at hk; omega)
      obtain ⟨g, cap, hv2, hcap, hg, hrow⟩ := rowi_of_owns (xs := [] ++ xs) (by simp) hown (owns_some hown (by omega))
      simp only [List.nil_append] at hv2 hcap hrow
      simp only [Value.slice.injEq] at hv2
      obtain ⟨rfl, -, rfl⟩ := hv2
      have HRow : Hid (RowI w2 g xs) := hrow
      have r1 := hrow.cells k x HXk.out
      have r2 := hrow.thaw k hk
      have rlt := hrow.lt
      obtain ⟨y, hy⟩ : ∃ y, IntKind.i64.wrap (x + 1) = y := ⟨_, rfl⟩
      have HY : Hid (IntKind.i64.wrap (x + 1) = y) := hy
      have G2 := bt hb1 hb2
      obtain ⟨⟨ya, ea⟩, hma⟩ : ∃ z, midT xs = z := ⟨_, rfl⟩
      obtain ⟨⟨yb, eb⟩, hmb⟩ : ∃ z, midT (xs.set k y) = z := ⟨_, rfl⟩
      have hrow3 := hrow.set k y
      have HB3 : Hid (Below w1.heap.size w1 (w2.setCell ⟨g, k, none⟩ (.int .i64 y))) := bs hb2 hg _
      have HN3 : Hid (Num (w2.setCell ⟨g, k, none⟩ (.int .i64 y)) B (.slice a xs.length c) xs) := (HN.out.at hB hb1).at (by have := hb1.size; omega) HB3.out
      have HO3 : Hid (Num (w2.setCell ⟨g, k, none⟩ (.int .i64 y)) (w2.setCell ⟨g, k, none⟩ (.int .i64 y)).heap.size (.slice (some ⟨g, 0, none⟩) xs.length c2) (xs.set k y)) := by
        have := hrow3.numC (by simp; omega) (c := c2) (by simpa using hcap) hrow3.lt
        rw [List.length_set] at this
        exact this
      have sz3 : B ≤ (w2.setCell ⟨g, k, none⟩ (.int .i64 y)).heap.size := by have := HB3.out.size; have := hb1.size; omega
      have k1 := middle_any B _ xs _ HN3.out sz3 ya ea hma
      have HMa : Hid (midT xs = (ya, ea)) := hma
      have HMb : Hid (midT (xs.set k y) = (yb, eb)) := hmb
      have G3 := bt hb1 HB3.out
      clear hown hgrow hat hrow HOW HXW hb2 hrow3 hma hmb
      go_wp2_with fail
      refine k1.mono ?_
      rintro e w4 ⟨va, rfl, hna, hb4⟩
      clear k1
      have G4 := bt G3 hb4
      have k2 := middle_any _ _ (xs.set k y) w4 (HO3.out.at (Nat.le_refl _) hb4) hb4.size yb eb HMb.out
      obtain ⟨aa, ca, rfl, hca, hla, _⟩ := id hna
      have HNa : Hid (Num w4 w4.heap.size (.slice aa ya.length ca) ya) := hna
      clear hna
      go_wp2_with fail
      refine k2.mono ?_
      rintro e w5 ⟨vb, rfl, hnb, hb5⟩
      clear k2
      have G5 := bt G4 hb5
      obtain ⟨ab, cb, rfl, hcb, hlb, _⟩ := id hnb
      have HNb : Hid (Num w5 w5.heap.size (.slice ab yb.length cb) yb) := hnb
      have HNa5 : Hid (Num w5 w4.heap.size (.slice aa ya.length ca) ya) := HNa.out.keep hb5
      clear hnb
      by_cases e1 : ea = 0
      · subst e1
        by_cases e2 : eb = 0
        · subst e2
          obtain ⟨m1, m2, m3⟩ := midT_ok HMa.out
          obtain ⟨n1, n2, n3⟩ := midT_ok HMb.out
          have hyy : y = x + 1 := by
            have := m2 x (List.mem_of_getElem? HXk.out)
            have := HY.out
            rw [IntKind.wrap_i64] at this
            omega
          have hla2 : ya.length = xs.length := by rw [m1]; simp
          have hlb2 : yb.length = xs.length := by rw [n1]; simp
          have HNE : Hid (∀ (i : Nat) (p q : Int), ya[i]? = some p → yb[i]? = some q → -16777216 ≤ p ∧ p ≤ 0 ∧ -16777216 ≤ q ∧ q ≤ 0 ∧ p - q ≤ 1 ∧ q - p ≤ 1) := by
            intro i p q hp hq
            have hi : i < xs.length := by have := (List.getElem?_eq_some_iff.1 hp).1; omega
            rw [m1] at hp
            rw [n1] at hq
            simp [hi] at hp hq
            have e3 : xs.set k y = xs.set k (xs.getD k 0 + 1) := by
              rw [hyy, show xs.getD k 0 = x by simp [List.getD, HXk.out]]
            have h4 := mid_near xs k hk i
            rw [← e3, hp, hq] at h4
            have h5 := mid_le xs i
            have h6 := mid_le (xs.set k y) i
            have h7 := mid_ge m2 m3 i
            have h8 := mid_ge n2 n3 i
            rw [hp] at h5 h7
            rw [hq] at h6 h8
            omega
          have HNb5 : Hid (Num w5 w5.heap.size (.slice ab xs.length cb) yb) := by have := HNb.out; rwa [hlb2] at this
          have HNa6 : Hid (Num w5 w4.heap.size (.slice aa xs.length ca) ya) := by have := HNa5.out; rwa [hla2] at this
          have HLa : Hid (ya.length = xs.length) := hla2
          have HLb : Hid (yb.length = xs.length) := hlb2
          rw [hla2, hlb2]
          clear m1 m2 m3 n1 n2 n3 hyy hla2 hlb2 HNa HNb HNa5 hla hlb hca hcb HO3 HN3 r1 r2 HB3 hy
          go_wp2
          go_loopw [62] (fun iv wr => ∃ i : Nat, i ≤ xs.length ∧ iv = .int .i64 (i : Int) ∧ ∃ q, wr = w5.drewN q) (fun iv _ => xs.length - (intOf iv).toNat)
          case atStart => exact ⟨0, Nat.zero_le _, rfl, 0, rfl⟩
          case round =>
            obtain ⟨i, hi, rfl, q, rfl⟩ := hrel
            by_cases h1 : i < xs.length
            · obtain ⟨b1, o1, c1', p, he1, hcc1, _, hp, hcp⟩ := HNa6.out.get (i := i) (by rw [HLa.out]; exact h1)
              obtain ⟨b2, o2, c2', q2, he2, hcc2, _, hq, hcq⟩ := HNb5.out.get (i := i) (by rw [HLb.out]; exact h1)
              simp only [Value.slice.injEq] at he1 he2
              obtain ⟨rfl, -, rfl⟩ := he1
              obtain ⟨rfl, -, rfl⟩ := he2
              obtain ⟨p0, p1, q0, q1, d1, d2⟩ := HNE.out i p q2 hp hq
              have f1 : decide (1 < p - q2) = false := by simp; omega
              have f2 : decide (1 < q2 - p) = false := by simp; omega
              have f3 : decide (0 < p) = false := by simp; omega
              rw [HLa.out] at hcc1
              rw [HLb.out] at hcc2
              clear hp hq
              go_wp2
              go_quiet (fail)
              go_wp2
              go_roundw
              case rel => exact ⟨i + 1, h1, by go_num, _, by first | rfl | exact (dr1 _ _ _).choose_spec⟩
              case measure => simp [intOf]; omega
            · go_wp2
              go_ret
              exact ⟨rfl, below_drewN G5 _⟩
        · have e3 : (eb == 0) = false := by simpa using e2
          have e4 : (eb != 0) = true := by simpa using e2
          clear HMa HMb HNa HNb HNa5
          go_wp2
          go_ret
          exact ⟨rfl, G5⟩
      · have e3 : (ea == 0) = false := by simpa using e1
        have e4 : (ea != 0) = true := by simpa using e1
        clear HMa HMb HNa HNb HNa5
        go_wp2
        go_ret
        exact ⟨rfl, G5⟩
end Go.Proofs.Ythmkbkombjhaeaa

namespace Go.Proofs.Ythmkbkombjhaeaa
open Go.RowKit Go.Proofs.Ythmkbkombjhaeaa.Ds

theorem midT_len {xs ys : List Int} {er : Int} (h : midT xs = (ys, er)) : ys.length ≤ 4096 := by
  by_cases c : er = 0
  · subst c
    obtain ⟨h1, _, h3⟩ := midT_ok h
    rw [h1]
    simpa using h3
  · unfold midT at h
    by_cases c2 : midE xs = 0
    · rw [if_neg (by simpa using c2)] at h
      simp only [Prod.mk.injEq] at h
      exact absurd h.2.symm c
    · rw [if_pos c2] at h
      simp only [Prod.mk.injEq] at h
      rw [← h.1]
      simp

set_option maxHeartbeats 4000000 in
set_option maxRecDepth 100000 in
theorem choiceWeighs_walk (B : Nat) (u d : Int) (v dv cv : Value) (l : List Int) (ts : List Tr) (cs : List Int) (w : World) (hB : B ≤ w.heap.size) (hl : Num w B v l) (hd : Parts w B dv ts) (hc : Num w B cv cs) :
    Calls Try.prog 3 #[rv u d, v, dv, cv] w fun e w' => e = .returned (.bool true) ∧ Below w.heap.size w w' := by
  have HL : Hid (Num w B v l) := hl
  have HD : Hid (Parts w B dv ts) := hd
  have HC : Hid (Num w B cv cs) := hc
  obtain ⟨⟨wk, we⟩, hwa⟩ : ∃ z, weighT u d l = z := ⟨_, rfl⟩
  obtain ⟨⟨fk, fe⟩, hfa⟩ : ∃ z, flipT u d l = z := ⟨_, rfl⟩
  obtain ⟨⟨sx, sy, se⟩, hsa⟩ : ∃ z, scoT (rd ts) l = z := ⟨_, rfl⟩
  obtain ⟨⟨ms, me⟩, hma⟩ : ∃ z, midT cs = z := ⟨_, rfl⟩
  have kw := fun W h hB => weigh_any B u d v l W h hB wk we hwa
  have kw2 := fun W h hB => rweigh_any B u d v l W h hB wk we hwa
  have kf := fun W h hB => flip_any B u d v l W h hB fk fe hfa
  have kf2 := fun W h hB => rflip_any B u d v l W h hB fk fe hfa
  have ks := fun W hB hp hu => score_any B dv v ts l W hB hp hu sx sy se hsa
  have ks2 := fun W hB hp hu => rscore_any B dv v ts l W hB hp hu sx sy se hsa
  have km := fun W h hB => middle_any B cv cs W h hB ms me hma
  have km2 := fun W h hB => rmiddle_any B cv cs W h hB ms me hma
  have hml := midT_len hma
  obtain ⟨la, lc, rfl, hlc, hll, _⟩ := hl
  obtain ⟨da, dc, rfl, hdc, hdl, _⟩ := hd
  obtain ⟨ca, cc, rfl, hcc, hcl, _⟩ := hc
  clear hwa hfa hsa hma
  go_enter Try.func3, Try.ntmps3
  go_wp2_with fail
  refine (kw _ (HL.out.at hB (ba _ _)) (by simp; omega)).mono ?_
  rintro e w1 ⟨v1, us1, rfl, h1, o1, hb1, _⟩
  clear kw
  have G1 := bt (ba _ _) hb1
  obtain ⟨hc1, hf1⟩ := bcell hb1
  have k0 : w1.cell? ⟨w.heap.size, 0, none⟩ = some (.int .i64 u) := by rw [hc1 _ _ (by simp)]; simp [go_sem]
  have k1 : w1.cell? ⟨w.heap.size, 1, none⟩ = some (.int .i64 d) := by rw [hc1 _ _ (by simp)]; simp [go_sem]
  have klt : w.heap.size < w1.heap.size := by have := hb1.size; simp at this; omega
  obtain ⟨a1, c1, rfl⟩ := o1.slice
  have H1 : Hid (Parts w1 w1.heap.size (.slice a1 us1.length c1) us1) := o1.parts
  have R1 : Hid (rd us1 = wk) := h1
  clear hc1 hf1 hb1 o1 h1
  go_wp2_with fail
  refine (kw2 _ (HL.out.at hB G1) (by have := G1.size; omega)).mono ?_
  rintro e w2 ⟨v2, us2, rfl, h2, o2, hb2⟩
  clear kw2
  have G2 := bt G1 hb2
  have klt2 : w.heap.size < w2.heap.size := by have := hb2.size; omega
  have j0 : w2.cell? ⟨w.heap.size, 0, none⟩ = some (.int .i64 u) := (hb2.cell (p := ⟨w.heap.size, 0, none⟩) klt).trans k0
  have j1 : w2.cell? ⟨w.heap.size, 1, none⟩ = some (.int .i64 d) := (hb2.cell (p := ⟨w.heap.size, 1, none⟩) klt).trans k1
  obtain ⟨a2, c2, rfl⟩ := o2.slice
  have km1 := sameR_any w2.heap.size _ _ us1 us2 w2 (Nat.le_refl _) ((H1.out.keep hb2).mono hb2.size) o2.parts true (by rw [R1.out, h2]; simp)
  clear hb2 o2 h2 H1 R1 k0 k1 klt
  go_wp2_with fail
  refine km1.mono ?_
  rintro e w3 ⟨rfl, hb3⟩
  clear km1
  have G3 := bt G2 hb3
  have k0 : w3.cell? ⟨w.heap.size, 0, none⟩ = some (.int .i64 u) := (hb3.cell (p := ⟨w.heap.size, 0, none⟩) klt2).trans j0
  have k1 : w3.cell? ⟨w.heap.size, 1, none⟩ = some (.int .i64 d) := (hb3.cell (p := ⟨w.heap.size, 1, none⟩) klt2).trans j1
  have klt : w.heap.size < w3.heap.size := by have := hb3.size; omega
  clear hb3 j0 j1 klt2
  go_wp2_with fail
  refine (kf _ (HL.out.at hB G3) (by have := G3.size; omega)).mono ?_
  rintro e w4 ⟨v4, us4, rfl, h4, o4, hb4, _⟩
  clear kf
  have G4 := bt G3 hb4
  have j0 : w4.cell? ⟨w.heap.size, 0, none⟩ = some (.int .i64 u) := (hb4.cell (p := ⟨w.heap.size, 0, none⟩) klt).trans k0
  have j1 : w4.cell? ⟨w.heap.size, 1, none⟩ = some (.int .i64 d) := (hb4.cell (p := ⟨w.heap.size, 1, none⟩) klt).trans k1
  obtain ⟨a4, c4, rfl⟩ := o4.slice
  have H4 : Hid (Parts w4 w4.heap.size (.slice a4 us4.length c4) us4) := o4.parts
  have R4 : Hid (rd us4 = fk) := h4
  clear hb4 o4 h4 k0 k1 klt
  go_wp2_with fail
  refine (kf2 _ (HL.out.at hB G4) (by have := G4.size; omega)).mono ?_
  rintro e w5 ⟨v5, us5, rfl, h5, o5, hb5⟩
  clear kf2 j0 j1
  have G5 := bt G4 hb5
  obtain ⟨a5, c5, rfl⟩ := o5.slice
  have km3 := sameR_any w5.heap.size _ _ us4 us5 w5 (Nat.le_refl _) ((H4.out.keep hb5).mono hb5.size) o5.parts true (by rw [R4.out, h5]; simp)
  clear hb5 o5 h5 H4 R4
  go_wp2_with fail
  refine km3.mono ?_
  rintro e w6 ⟨rfl, hb6⟩
  clear km3
  have G6 := bt G5 hb6
  clear hb6
  go_wp2_with fail
  refine (ks _ (by have := G6.size; omega) (HD.out.at hB G6) (HL.out.at hB G6)).mono ?_
  rintro e w7 ⟨rfl, hb7⟩
  clear ks
  have G7 := bt G6 hb7
  clear hb7
  go_wp2_with fail
  refine (ks2 _ (by have := G7.size; omega) (HD.out.at hB G7) (HL.out.at hB G7)).mono ?_
  rintro e w8 ⟨rfl, hb8⟩
  clear ks2
  have G8 := bt G7 hb8
  clear hb8
  go_wp2_with fail
  refine (km _ (HC.out.at hB G8) (by have := G8.size; omega)).mono ?_
  rintro e w9 ⟨v9, rfl, n9, hb9⟩
  clear km
  have G9 := bt G8 hb9
  obtain ⟨a9, c9, rfl, hc9, hl9, _⟩ := id n9
  have H9 : Hid (Num w9 w9.heap.size (.slice a9 ms.length c9) ms) := n9
  clear hb9 n9
  go_wp2_with fail
  refine (km2 _ (HC.out.at hB G9) (by have := G9.size; omega)).mono ?_
  rintro e w10 ⟨v10, rfl, n10, hb10⟩
  clear km2
  have G10 := bt G9 hb10
  obtain ⟨a10, c10, rfl, hc10, hl10, _⟩ := id n10
  have kc := refCompare_any w10.heap.size w10.heap.size w10.heap.size _ _ ms ms w10 (((H9.out.keep hb10).mono hb10.size).ints (by omega) (Nat.le_refl _)) (n10.ints (by omega) (Nat.le_refl _)) 0 (cmpT_self ms)
  clear hb10 n10 H9
  go_wp2_with fail
  refine kc.mono ?_
  rintro e w11 ⟨rfl, q, rfl⟩
  clear kc
  have G11 := below_drewN G10 q
  go_wp2
  go_ret
  exact ⟨rfl, G11⟩
end Go.Proofs.Ythmkbkombjhaeaa
