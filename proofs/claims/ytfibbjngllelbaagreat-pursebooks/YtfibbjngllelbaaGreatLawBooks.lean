import Derived.Test.YtfibbjngllelbaaGreatRd2
import Derived.Test.YtfibbjngllelbaaGreatPbk
import Derived.Test.YtfibbjngllelbaaGreatPbo
import Derived.Maps.AppendAt
import Derived.Test.YtfibbjngllelbaaGreatPlw
namespace Go.Proofs.YtfibbjngllelbaaGreat
open Go.RowKit Go.Shelf Go.Proofs.YtfibbjngllelbaaGreat.Ds

theorem most_okR {f : Int → Rq × Int} {m : Rq} {ps : List Int} (hm : OkR m) (hf : ∀ p, (f p).2 = 0 → OkR (f p).1) (h : (mostT f m ps).2 = 0) : OkR (mostT f m ps).1 := by
  induction ps generalizing m with
  | nil => exact hm
  | cons q ps ih =>
    simp only [mostT] at h ⊢
    by_cases h1 : (f q).2 = 0
    · simp only [h1, ↓reduceIte] at h ⊢
      refine ih ?_ h
      by_cases h2 : LeR m (f q).1
      · rw [if_pos h2]; exact hf q h1
      · rw [if_neg h2]; exact hm
    · simp only [h1, ↓reduceIte] at h
theorem spent_okR {l : List En} (hok : ∀ e ∈ l, OkR e.2.2.2) {n : ByteArray} (h : (spentT l n).2 = 0) : OkR (spentT l n).1 := by
  have h1 : (allP l n).2 = 0 → OkR (allP l n).1 := fun h0 => by
    rcases prod_ok ok_one (lss_ok hok n 2 0) with ⟨_, k⟩ | k
    · exact k
    · unfold allP at h0; rw [k] at h0; simp at h0
  have h2 : ∀ p, (prtP l n p).2 = 0 → OkR (prtP l n p).1 := fun p h0 => by
    rcases prod_ok ok_one (lss_ok hok n 3 p) with ⟨_, k⟩ | k
    · exact k
    · unfold prtP at h0; rw [k] at h0; simp at h0
  unfold spentT at h ⊢
  by_cases c1 : (allP l n).2 = 0
  · rw [if_pos c1] at h ⊢
    by_cases c2 : (mostT (prtP l n) oneQ (prs l n)).2 = 0
    · rw [if_pos c2] at h ⊢
      rcases mul_cases (h1 c1) (most_okR ok_one h2 c2) with ⟨_, k, _⟩ | k
      · exact k
      · rw [k] at h; simp at h
    · rw [if_neg c2] at h; exact absurd h c2
  · rw [if_neg c1] at h; exact absurd h c1
theorem bud_okR {l : List En} (h : Inv l) {n : ByteArray} {b : Rq} (hb : budT l n = some b) : OkR b := by
  unfold budT at hb
  obtain ⟨x, hx, rfl⟩ := Option.map_eq_some_iff.1 hb
  exact (bad_ok (h.bad x (List.mem_of_find?_eq_some hx)).1).2.2.2

set_option maxHeartbeats 4000000 in
set_option maxRecDepth 100000 in
/-- Do, of an entry that is right, to a book with room -/
theorem rdoGood_any (B : Nat) (dv : Value) (l : List En) (e : En) (w : World) (hB : B ≤ w.heap.size) (hx : Ents w B dv l) (hinv : Inv l) (hb : badT e = 0) (hl4 : l.length < 4096) (hpI : -9223372036854775808 ≤ e.2.2.1 ∧ e.2.2.1 ≤ 9223372036854775807) :
    Calls Tryz.prog 17 #[dv, ev e] w fun x w' => x = .returned (.int .i64 (doT l e)) ∧ Below w.heap.size w w' := by
  obtain ⟨er, her⟩ : ∃ er, doT l e = er := ⟨_, rfl⟩
  rw [her]
  have HX : Hid (Ents w B dv l) := hx
  have HINV : Hid (Inv l) := hinv
  obtain ⟨a, c, rfl, hc, hl⟩ := hx.slice
  obtain ⟨d, nm, p, u, v⟩ := e
  obtain ⟨hd1, hd3, hnam, hokl⟩ := bad_ok hb
  simp only at hd1 hd3 hnam hokl hpI
  have HHB : Hid (badT (d, nm, p, u, v) = 0) := hb
  have hsz : nm.size ≤ 9223372036854775807 := by
    have h1 := hnam
    unfold namB at h1
    simp only [Bool.and_eq_true, decide_eq_true_eq] at h1
    have h2 := h1.1.2
    rw [Array.length_toList] at h2
    show nm.data.size ≤ _
    omega
  rw [doT_base hb hl4] at her
  simp only at her
  obtain ⟨bq, hbq⟩ : ∃ bq, budT l nm = bq := ⟨_, rfl⟩
  rw [hbq] at her
  have HER := her
  have kn := fun W => rnamed_any nm hsz W true hnam
  have kr := fun W => refRight_any u v true hokl.1 W
  have kbu := fun W (hW : B ≤ W.heap.size) (h : Ents W B (.slice a l.length c) l) => budget_any B _ l nm W hW h bq hbq
  obtain ⟨X, hX⟩ : ∃ X, w.alloc (.cells #[.int .i64 d, .string nm, .int .i64 p, .int .i64 u, .int .i64 v] 45) = X := ⟨_, rfl⟩
  have V0 := FivB.new w (.int .i64 d) (.string nm) (.int .i64 p) (.int .i64 u) (.int .i64 v) 45 _ rfl
  have hbX : Below w.heap.size w X := by rw [← hX]; exact ba _ _
  have hzX : X.heap.size = w.heap.size + 1 := by rw [← hX]; simp
  rw [hX] at V0
  have HV0 : Hid (FivB X w.heap.size (.int .i64 d) (.string nm) (.int .i64 p) (.int .i64 u) (.int .i64 v)) := V0
  obtain ⟨x0, x1, x2, x3, x4, _, _, _, _, _, hlx⟩ := V0
  have hnlt : ¬ d < 1 := by omega
  have hngt : ¬ d > 3 := by omega
  have huv : ¬ u < v := by have := hokl.2; simp only at this; omega
  have hnge : ¬ (l.length : Int) ≥ 4096 := by omega
  have HOKL : Hid (OkR (u, v)) := hokl
  have HSZ : Hid (nm.size ≤ 9223372036854775807) := hsz
  have HBQ : Hid (budT l nm = bq) := hbq
  clear hb her hx hinv hokl hnam hsz hbq
  go_enter Tryz.func17, Tryz.ntmps17
  go_wp2_with fail
  refine (kn _).mono ?_
  rintro e1 w1 ⟨rfl, rfl⟩
  go_wp2_with fail
  refine (kr _).mono ?_
  rintro e2 w2 ⟨rfl, hb2⟩
  have HV2 : Hid (FivB w2 w.heap.size (.int .i64 d) (.string nm) (.int .i64 p) (.int .i64 u) (.int .i64 v)) := HV0.out.below hb2
  obtain ⟨y0, y1, y2, y3, y4, _, _, _, _, _, hly⟩ := HV2.out
  have B2 : Below w.heap.size w w2 := bt hbX hb2
  go_wp2_with fail
  refine (kbu _ (Nat.le_trans hB B2.size) (HX.out.at hB B2)).mono ?_
  rintro e3 w3 ⟨rfl, hb3⟩
  have hs3 := hb3.size
  obtain ⟨X3, hX3⟩ : ∃ X3, w3.alloc (.cells #[.int .i64 (bq.getD (0, 0)).1, .int .i64 (bq.getD (0, 0)).2] 35) = X3 := ⟨_, rfl⟩
  have hbX3 : Below w3.heap.size w3 X3 := by rw [← hX3]; exact ba _ _
  have hzX3 : X3.heap.size = w3.heap.size + 1 := by rw [← hX3]; simp
  have HV3 : Hid (FivB X3 w.heap.size (.int .i64 d) (.string nm) (.int .i64 p) (.int .i64 u) (.int .i64 v)) := (HV2.out.below hb3).below hbX3
  have HT3 : Hid (TwoB X3 w3.heap.size (.int .i64 (bq.getD (0, 0)).1) (.int .i64 (bq.getD (0, 0)).2)) := by rw [← hX3]; exact TwoB.new _ _ _ 35 _ rfl
  have B3 : Below w.heap.size w X3 := bt (bt B2 hb3) hbX3
  obtain ⟨z0, z1, z2, z3, z4, _, _, _, _, _, hlz⟩ := HV3.out
  clear kn kr kbu x0 x1 x2 x3 x4 y0 y1 y2 y3 y4
  by_cases hd : d = 1
  · subst hd
    cases bq with
    | some b =>
      simp only [Option.getD_some] at HT3 hX3 ⊢
      obtain rfl : 7 = er := by simpa using HER
      go_wp2
      go_ret
      exact ⟨rfl, B3⟩
    | none =>
      simp only [Option.getD_none] at HT3 hX3 ⊢
      subst hX3
      obtain ⟨q0, q1, q2, q3, q4, _, _, _, _, _, hlq⟩ := HV2.out.below hb3
      clear z0 z1 z2 z3 z4
      have kna := rnames_any B _ l (w3.alloc (.cells #[.int .i64 0, .int .i64 0] 35)) (Nat.le_trans hB B3.size) (HX.out.at hB B3) (by omega)
      go_wp2_with fail
      refine kna.mono ?_
      rintro e4 w4 ⟨r, rfl, hrow, hb4⟩
      obtain ⟨ra, rc, rfl⟩ := row_slice hrow
      have hnl : (nLs l).length = (opsT l).length := nLs_len l
      by_cases h64 : 64 ≤ (opsT l).length
      · obtain rfl : 5 = er := by simpa [h64] using HER
        have hge : ((nLs l).length : Int) ≥ 64 := by omega
        clear hrow hnl
        go_wp2
        go_ret
        exact ⟨rfl, bt B3 hb4⟩
      · obtain rfl : 0 = er := by simpa [h64] using HER
        have hge : ¬ ((nLs l).length : Int) ≥ 64 := by omega
        clear hrow hnl
        go_wp2
        go_ret
        exact ⟨rfl, bt B3 hb4⟩
  · have hdn : (d == 1) = false := by simpa using hd
    cases bq with
    | none =>
      simp only [Option.getD_none] at HT3 hX3 ⊢
      subst hX3
      obtain ⟨q0, q1, q2, q3, q4, _, _, _, _, _, hlq⟩ := HV2.out.below hb3
      clear z0 z1 z2 z3 z4
      obtain rfl : 7 = er := by simpa [hd] using HER
      go_wp2
      go_ret
      exact ⟨rfl, B3⟩
    | some b =>
      simp only [hd, ↓reduceIte] at HER
      simp only [Option.getD_some] at HT3 hX3 ⊢
      by_cases hd3' : d = 3
      · subst hd3'
        simp only [true_and] at HER
        by_cases hp : p < 0 ∨ 1073741824 < p
        · obtain rfl : 3 = er := by simpa [hp] using HER
          rcases hp with hp | hp
          · go_wp2
            go_ret
            exact ⟨rfl, B3⟩
          · have hp0 : ¬ p < 0 := by omega
            have hp1 : p > 1073741824 := hp
            go_wp2
            go_ret
            exact ⟨rfl, B3⟩
        · have hp0 : ¬ p < 0 := by omega
          have hp1 : ¬ p > 1073741824 := by omega
          rw [if_neg hp] at HER
          go_wp2
          refine region21 (fun _ _ d _ _ h => by cases d <;> exact h) _ _ _ _ _ _ _ _ _ _ _ _ _ _ _ _ _ _ _ _ _ _ _ _ _ _ _ _ _ _ _ _ _ _ _ _ _ _ _ _ _ _ _ _ _ _ _ _ _ _ _ _ _ _ _ _ _ _ _ _ _ _ _ _ _ _ _ _ _ _ _ _ _ _ _ _ _ _ _ _ _ _ _ _ _ _ _ _ _ _ _ _ _ _ _ X3 B w.heap.size c a l 3 nm p u v hl4 (Nat.le_trans hB B3.size) (HX.out.at hB B3) HSZ.out HV3.out ?_
          intro j66 j67 j68 j69 j70 j71 j72 j73 j74 pa pc Wg hgg
          have BG : Below w.heap.size w Wg := B3.grown hgg B3.size (by simp)
          have HVG : Hid (FivB Wg w.heap.size (.int .i64 3) (.string nm) (.int .i64 p) (.int .i64 u) (.int .i64 v)) := HV3.out.gb hgg (by simp)
          have HTG : Hid (TwoB Wg w3.heap.size (.int .i64 b.1) (.int .i64 b.2)) := HT3.out.gb hgg (by simp)
          by_cases h64 : 64 < (parT (l ++ [(3, nm, p, u, v)]) nm).length
          · obtain rfl : 5 = er := by simpa [h64] using HER
            have h65 : ((parT (l ++ [(3, nm, p, u, v)]) nm).length : Int) > 64 := by omega
            go_wp2
            go_ret
            exact ⟨rfl, BG⟩
          · rw [if_neg h64] at HER
            have h65 : ¬ ((parT (l ++ [(3, nm, p, u, v)]) nm).length : Int) > 64 := by omega
            obtain ⟨⟨sq, se⟩, hsq⟩ : ∃ y, spentT (l ++ [(3, nm, p, u, v)]) nm = y := ⟨_, rfl⟩
            have hoks : ∀ e ∈ l ++ [(3, nm, p, u, v)], OkR e.2.2.2 := by
              intro e he
              rcases List.mem_append.1 he with h | h
              · exact (bad_ok (HINV.out.bad e h).1).2.2.2
              · simp at h; subst h; exact HOKL.out
            have hokq : se = 0 → OkR sq := fun h0 => by have h := spent_okR hoks (n := nm) (by rw [hsq]; exact h0); rw [hsq] at h; exact h
            have hokb : OkR b := bud_okR HINV.out HBQ.out
            rw [hsq] at HER
            simp only at HER
            have HSQ : Hid (spentT (l ++ [(3, nm, p, u, v)]) nm = (sq, se)) := hsq
            clear hsq
            go_wp2
            refine region24 (fun _ _ d _ _ h => by cases d <;> exact h) _ _ _ _ _ _ _ _ _ _ _ _ _ _ _ _ _ _ _ _ _ _ _ _ _ _ _ _ _ _ _ _ _ _ _ _ _ _ _ _ _ _ _ _ _ _ _ _ _ _ _ _ _ _ _ _ _ _ _ _ _ _ _ _ _ _ _ _ _ _ _ _ _ _ _ _ _ _ _ _ _ _ _ _ _ _ _ _ _ _ _ _ _ _ _ Wg B w.heap.size c a l 3 nm p u v hl4 (Nat.le_trans hB BG.size) (HX.out.at hB BG) HSZ.out HVG.out sq se HSQ.out hoks ?_
            intro k78 k79 k80 k81 k82 k83 k84 k85 k86 k87 k88 k89 b8 Wf hb8 hT8 hgf
            have BF : Below w.heap.size w Wf := BG.grown hgf BG.size (by simp)
            have HTF : Hid (TwoB Wf w3.heap.size (.int .i64 b.1) (.int .i64 b.2)) := HTG.out.gb hgf (by simp)
            have HT8 : Hid (TwoB Wf b8 (.int .i64 sq.1) (.int .i64 sq.2)) := hT8
            obtain ⟨m0, m1, _, _, hlm⟩ := hT8
            obtain ⟨n0, n1, _, _, hln⟩ := HTF.out
            by_cases hse : se = 0
            · subst hse
              have qb := (hokq rfl).bd
              have bb := hokb.bd
              by_cases hle : LeR sq b
              · obtain rfl : 0 = er := by simpa [hle] using HER
                have km := fun W => refMost_any sq.1 sq.2 b.1 b.2 qb.1 qb.2.1 (by omega) qb.2.2.2 bb.1 bb.2.1 (by omega) bb.2.2.2 true (decide_eq_true hle) W
                clear hle hokq hoks
                go_wp2_with fail
                refine (km _).mono ?_
                rintro e9 w9 ⟨rfl, hb9⟩
                have B9 : Below w.heap.size w w9 := bt BF hb9
                clear km
                go_wp2
                go_ret
                exact ⟨rfl, B9⟩
              · obtain rfl : 10 = er := by simpa [hle] using HER
                have km := fun W => refMost_any sq.1 sq.2 b.1 b.2 qb.1 qb.2.1 (by omega) qb.2.2.2 bb.1 bb.2.1 (by omega) bb.2.2.2 false (decide_eq_false hle) W
                clear hle hokq hoks
                go_wp2_with fail
                refine (km _).mono ?_
                rintro e9 w9 ⟨rfl, hb9⟩
                have B9 : Below w.heap.size w w9 := bt BF hb9
                clear km
                go_wp2
                go_ret
                exact ⟨rfl, B9⟩
            · obtain rfl : se = er := by simpa [hse] using HER
              have hse1 : (se != 0) = true := by simpa using hse
              clear hokq hoks
              go_wp2
              go_ret
              exact ⟨rfl, BF⟩
      · have hd2 : (d == 3) = false := by simpa using hd3'
        simp only [hd3', false_and, ↓reduceIte] at HER
        obtain ⟨⟨sq, se⟩, hsq⟩ : ∃ y, spentT (l ++ [(d, nm, p, u, v)]) nm = y := ⟨_, rfl⟩
        have hoks : ∀ e ∈ l ++ [(d, nm, p, u, v)], OkR e.2.2.2 := by
          intro e he
          rcases List.mem_append.1 he with h | h
          · exact (bad_ok (HINV.out.bad e h).1).2.2.2
          · simp at h; subst h; exact HOKL.out
        have hokq : se = 0 → OkR sq := fun h0 => by have h := spent_okR hoks (n := nm) (by rw [hsq]; exact h0); rw [hsq] at h; exact h
        have hokb : OkR b := bud_okR HINV.out HBQ.out
        rw [hsq] at HER
        simp only at HER
        have HSQ : Hid (spentT (l ++ [(d, nm, p, u, v)]) nm = (sq, se)) := hsq
        clear hsq
        go_wp2
        refine region24 (fun _ _ d _ _ h => by cases d <;> exact h) _ _ _ _ _ _ _ _ _ _ _ _ _ _ _ _ _ _ _ _ _ _ _ _ _ _ _ _ _ _ _ _ _ _ _ _ _ _ _ _ _ _ _ _ _ _ _ _ _ _ _ _ _ _ _ _ _ _ _ _ _ _ _ _ _ _ _ _ _ _ _ _ _ _ _ _ _ _ _ _ _ _ _ _ _ _ _ _ _ _ _ _ _ _ _ X3 B w.heap.size c a l d nm p u v hl4 (Nat.le_trans hB B3.size) (HX.out.at hB B3) HSZ.out HV3.out sq se HSQ.out hoks ?_
        intro k78 k79 k80 k81 k82 k83 k84 k85 k86 k87 k88 k89 b8 Wf hb8 hT8 hgf
        have BF : Below w.heap.size w Wf := B3.grown hgf B3.size (by simp)
        have HTF : Hid (TwoB Wf w3.heap.size (.int .i64 b.1) (.int .i64 b.2)) := HT3.out.gb hgf (by simp)
        have HT8 : Hid (TwoB Wf b8 (.int .i64 sq.1) (.int .i64 sq.2)) := hT8
        obtain ⟨m0, m1, _, _, hlm⟩ := hT8
        obtain ⟨n0, n1, _, _, hln⟩ := HTF.out
        by_cases hse : se = 0
        · subst hse
          have qb := (hokq rfl).bd
          have bb := hokb.bd
          by_cases hle : LeR sq b
          · obtain rfl : 0 = er := by simpa [hle] using HER
            have km := fun W => refMost_any sq.1 sq.2 b.1 b.2 qb.1 qb.2.1 (by omega) qb.2.2.2 bb.1 bb.2.1 (by omega) bb.2.2.2 true (decide_eq_true hle) W
            clear hle hokq hoks
            go_wp2_with fail
            refine (km _).mono ?_
            rintro e9 w9 ⟨rfl, hb9⟩
            have B9 : Below w.heap.size w w9 := bt BF hb9
            clear km
            go_wp2
            go_ret
            exact ⟨rfl, B9⟩
          · obtain rfl : 10 = er := by simpa [hle] using HER
            have km := fun W => refMost_any sq.1 sq.2 b.1 b.2 qb.1 qb.2.1 (by omega) qb.2.2.2 bb.1 bb.2.1 (by omega) bb.2.2.2 false (decide_eq_false hle) W
            clear hle hokq hoks
            go_wp2_with fail
            refine (km _).mono ?_
            rintro e9 w9 ⟨rfl, hb9⟩
            have B9 : Below w.heap.size w w9 := bt BF hb9
            clear km
            go_wp2
            go_ret
            exact ⟨rfl, B9⟩
        · obtain rfl : se = er := by simpa [hse] using HER
          have hse1 : (se != 0) = true := by simpa using hse
          clear hokq hoks
          go_wp2
          go_ret
          exact ⟨rfl, BF⟩

theorem rdo_any (B : Nat) (dv : Value) (l : List En) (e : En) (w : World) (hB : B ≤ w.heap.size) (hx : Ents w B dv l) (hinv : Inv l) (hs : e.2.1.size ≤ 9223372036854775807) (hpI : -9223372036854775808 ≤ e.2.2.1 ∧ e.2.2.1 ≤ 9223372036854775807) :
    Calls Tryz.prog 17 #[dv, ev e] w fun x w' => x = .returned (.int .i64 (doT l e)) ∧ Below w.heap.size w w' := by
  by_cases hb : badT e ≠ 0 ∨ 4096 ≤ l.length
  · exact rdoBad_any B dv l e w hx hs hb
  · exact rdoGood_any B dv l e w hB hx hinv (by omega) (by omega) hpI
end Go.Proofs.YtfibbjngllelbaaGreat

namespace Go.Proofs.YtfibbjngllelbaaGreat
open Go.RowKit Go.Shelf Go.Proofs.YtfibbjngllelbaaGreat.Ds

set_option maxRecDepth 100000 in
set_option maxHeartbeats 1000000 in
/-- sameErrs -/
theorem sameErrs_any (b1 b2 : Nat) (v1 v2 : Value) (xs : List Int) (w : World) (h1 : w.ownsRow b1 36 1 v1 xs.length (encI xs)) (h2 : w.ownsRow b2 36 1 v2 xs.length (encI xs)) (hl : xs.length ≤ 9223372036854775807) :
    Calls Tryz.prog 6 #[v1, v2] w fun e w' => e = .returned (.bool true) ∧ Below w.heap.size w w' := by
  obtain ⟨a1, c1, rfl⟩ := row_slice h1
  obtain ⟨a2, c2, rfl⟩ := row_slice h2
  have H1 : Hid (w.ownsRow b1 36 1 (.slice a1 xs.length c1) xs.length (encI xs)) := h1
  have H2 : Hid (w.ownsRow b2 36 1 (.slice a2 xs.length c2) xs.length (encI xs)) := h2
  clear h1 h2
  go_enter Tryz.func6, Tryz.ntmps6
  go_wp2
  go_loopw [13] (fun s wr => ∃ (i : Nat), s = .int .i64 (i : Int) ∧ i ≤ xs.length ∧ Below w.heap.size w wr) (fun s _ => xs.length - (intOf s).toNat)
  case atStart => exact ⟨0, rfl, Nat.zero_le _, Below.refl _ _⟩
  case round =>
    obtain ⟨i, rfl, hi, hbr⟩ := hrel
    by_cases hi1 : i < xs.length
    · obtain ⟨x, hx⟩ := get_lt hi1
      obtain ⟨g1, rfl, _, _, k1⟩ := row_cell (row_gb H1.out (gb_none hbr) (by simp)) (j := i) (u := .int .i64 x) (by simp [encI, hx])
      obtain ⟨g2, rfl, _, _, k2⟩ := row_cell (row_gb H2.out (gb_none hbr) (by simp)) (j := i) (u := .int .i64 x) (by simp [encI, hx])
      have z1 : (i : Int) < (xs.length : Int) := by omega
      clear hx
      go_wp2
      go_quiet (fail)
      go_wp2
      go_roundw
      case rel => exact ⟨i + 1, by go_num, by omega, below_drewN hbr _⟩
      case measure => simp [intOf]; omega
    · have hi' : i = xs.length := by omega
      subst hi'
      go_wp2
      go_ret
      exact ⟨rfl, hbr⟩

theorem book_next {l : List En} {i : Nat} {e : En} (h : l[i]? = some e) : bookT [] (l.take (i + 1)) = ((bookT [] (l.take i)).1 ++ [doT (bookT [] (l.take i)).2 (nrm e)], stepD (bookT [] (l.take i)).2 e) := by
  rw [List.take_add_one, h]; exact book_snoc _ _ _

set_option maxRecDepth 100000 in
set_option maxHeartbeats 4000000 in
/-- All -/
theorem all_any (B : Nat) (lv : Value) (l : List En) (w : World) (hB : B ≤ w.heap.size) (hx : Ents w B lv l) (hbd : ∀ e ∈ l, -9223372036854775808 ≤ e.2.2.1 ∧ e.2.2.1 ≤ 9223372036854775807) (hln : l.length ≤ 4398046511104) :
    Calls Tryz.prog 5 #[lv] w fun x w' => ∃ ev dv, x = .returned (.tuple #[ev, dv]) ∧ w'.ownsRow w.heap.size 36 1 ev l.length (encI (bookT [] l).1) ∧ w'.ownsRow w.heap.size 45 5 dv (bookT [] l).2.length (enc (bookT [] l).2) ∧ Below w.heap.size w w' := by
  have HX : Hid (Ents w B lv l) := hx
  have HBD : Hid (∀ e ∈ l, -9223372036854775808 ≤ e.2.2.1 ∧ e.2.2.1 ≤ 9223372036854775807) := hbd
  obtain ⟨a, c, rfl, hc, hl⟩ := hx.slice
  obtain ⟨i36, hi36, hy0, hy1, hy2⟩ := info_parts info34
  obtain ⟨i45, hi45, hz0, hz1, hz2⟩ := info_parts info33
  clear hx hbd
  go_enter Tryz.func5, Tryz.ntmps5
  go_wp2
  go_loopw [4, 5, 11] (fun ov dv s wr => ∃ (i : Nat) (oa da : Option Addr) (oc dc : Nat) (es : List Int) (ds : List En), s = .int .i64 (i : Int) ∧ ov = .slice oa i oc ∧ dv = .slice da ds.length dc ∧ i ≤ l.length ∧ Hid (bookT [] (l.take i) = (es, ds)) ∧ Hid (wr.ownsRow w.heap.size 36 1 (.slice oa i oc) i (encI es)) ∧ Hid (wr.ownsRow w.heap.size 45 5 (.slice da ds.length dc) ds.length (enc ds)) ∧ Hid (∀ x, (Value.slice oa i oc).ownBlock = some x → (Value.slice da ds.length dc).ownBlock ≠ some x) ∧ Below w.heap.size w wr) (fun _ _ s _ => l.length - (intOf s).toNat)
  case atStart => exact ⟨0, none, none, 0, 0, [], [], rfl, rfl, rfl, Nat.zero_le _, by simp [Hid, bookT], ⟨rfl, .inl ⟨rfl, rfl⟩⟩, ⟨rfl, .inl ⟨rfl, rfl⟩⟩, (fun x hx => by cases hx), Below.refl _ _⟩
  case round =>
    obtain ⟨i, oa, da, oc, dc, es, ds, rfl, rfl, rfl, hi, HK, HO, HD, HN, hbl⟩ := hrel
    have hrs := hbl.size
    have hinv : Inv ds := by have h := inv_book inv_nil (l.take i); rw [HK.out] at h; exact h
    have HINV : Hid (Inv ds) := hinv
    have hdl := hinv.len
    clear hinv
    by_cases h1 : i < l.length
    · obtain ⟨b, o, d, nm, p, u, v, rfl, hb, hg, e0, e1, e2, e3, e4, hnm⟩ := HX.out.get hB hbl h1
      have hpI := HBD.out _ (List.mem_of_getElem? hg)
      simp only at hpI
      obtain ⟨er, her⟩ : ∃ er, doT ds (nrm (d, nm, p, u, v)) = er := ⟨_, rfl⟩
      have HNX : Hid (bookT [] (l.take (i + 1)) = (es ++ [er], if er = 0 then ds ++ [nrm (d, nm, p, u, v)] else ds)) := by
        rw [Hid, book_next hg, HK.out]
        simp only [stepD, her]
      have HHER : Hid (doT ds (nrm (d, nm, p, u, v)) = er) := her
      have z1 : (i : Int) < (l.length : Int) := by omega
      obtain ⟨X, hX⟩ : ∃ X, wr.alloc (.cells #[.int .i64 d, .string nm, .int .i64 p, .int .i64 u, .int .i64 v] 45) = X := ⟨_, rfl⟩
      have hbX : Below wr.heap.size wr X := by rw [← hX]; exact ba _ _
      have hzX : X.heap.size = wr.heap.size + 1 := by rw [← hX]; simp
      have VX := FivB.new wr (.int .i64 d) (.string nm) (.int .i64 p) (.int .i64 u) (.int .i64 v) 45 _ rfl
      rw [hX] at VX
      have HVX : Hid (FivB X wr.heap.size (.int .i64 d) (.string nm) (.int .i64 p) (.int .i64 u) (.int .i64 v)) := VX
      obtain ⟨x0, x1, x2, x3, x4, f0, f1, f2, f3, f4, hlx⟩ := VX
      clear hg her
      by_cases hd : d = 3
      ·
        have hdn3 : (d != 3) = false := by simp [hd]
        have hnr : Hid (nrm (d, nm, p, u, v) = (d, nm, p, u, v)) := by rw [Hid]; simp [nrm, hd]
        have gXY : wr.grownBy X none := gb_none hbX
        have gNX : ∀ x, (none : Option Nat) = some x → x = wr.heap.size ∨ wr.heap.size ≤ x := fun x e => by cases e
        have HVY : Hid (FivB X wr.heap.size (.int .i64 d) (.string nm) (.int .i64 p) (.int .i64 u) (.int .i64 v)) := HVX
        have hpY := hpI
        have BY : Below w.heap.size w X := bt hbl hbX
        clear hd
        have HOY : Hid (X.ownsRow w.heap.size 36 1 (.slice oa i oc) i (encI es)) := row_gb HO.out gXY (fun x hx e => by have := (row_lt HO.out hx).2; rcases gNX x e with h | h <;> omega)
        have HDY : Hid (X.ownsRow w.heap.size 45 5 (.slice da ds.length dc) ds.length (enc ds)) := row_gb HD.out gXY (fun x hx e => by have := (row_lt HD.out hx).2; rcases gNX x e with h | h <;> omega)
        have kd := rdo_any X.heap.size (.slice da ds.length dc) ds (d, nm, p, u, v) X (Nat.le_refl _) (ents_of_row HDY.out (by omega) (fun x hx => by have := inv_names HINV.out x hx; omega)) HINV.out hnm hpY
        have kd2 : Calls Tryz.prog 17 #[.slice da ds.length dc, ev (d, nm, p, u, v)] X fun x w' => x = .returned (.int .i64 er) ∧ Below X.heap.size X w' := by
          have h := kd
          rw [← hnr.out, HHER.out] at h
          rw [hnr.out] at h
          exact h
        clear kd
        go_wp2_with fail
        refine kd2.mono ?_
        rintro e9 w2 ⟨rfl, hb2⟩
        have hs2 := hb2.size
        have HV2 : Hid (FivB w2 wr.heap.size (.int .i64 d) (.string nm) (.int .i64 p) (.int .i64 u) (.int .i64 v)) := HVY.out.below hb2
        have B2 : Below w.heap.size w w2 := bt BY hb2
        have HO2 : Hid (w2.ownsRow w.heap.size 36 1 (.slice oa i oc) i (encI es)) := row_gb HOY.out (gb_none hb2) (by simp)
        have HD2 : Hid (w2.ownsRow w.heap.size 45 5 (.slice da ds.length dc) ds.length (enc ds)) := row_gb HDY.out (gb_none hb2) (by simp)
        have HOW : Hid ((w2.alloc (.cells #[.int .i64 er] 36)).ownsRow w.heap.size 36 1 (.slice oa i oc) i (encI es)) := row_gb HO2.out (gb_none (ba _ _)) (by simp)
        clear kd2
        go_wp2_with (at_builtin; refine wpList_append_own_at _ rfl _ _ 23 rfl w.heap.size 36 i36 (.int .i64 0) 1 8 Tryz.underlying23 hi36 hy0 hy1 hy2 rfl (by decide) (.slice oa i oc) i (encI es) rfl HOW.out ⟨w2.heap.size, 0, none⟩ 1 1 [.int .i64 er] rfl rfl (one_cells w2 _ _ _ rfl) (by intro z hz; simp at hz; subst hz; rfl) (by unfold maxLen; omega) (by omega) (by simp; omega) ?_)
        intro nv' w5 hown hgrow hnil hat
        obtain ⟨na, ncc, rfl⟩ := row_slice hown
        have hs5 : w2.heap.size + 1 ≤ w5.heap.size := by have := hgrow.size; simpa using this
        have B5 : Below w.heap.size w w5 := (B2.alloc B2.size _).grown hgrow (by have := B2.size; simp; omega) (fun k e => (row_lt HO2.out e).1)
        have HN5 : Hid (∀ x, (Value.slice na (i + 1) ncc).ownBlock = some x → (Value.slice da ds.length dc).ownBlock ≠ some x) := fun x hx e => by
          rcases hat with h | h
          · rw [h] at hx; exact HN.out x hx e
          · rw [h] at hx; have := (row_lt HD2.out e).2; simp at hx; omega
        have HO5 : Hid (w5.ownsRow w.heap.size 36 1 (.slice na (i + 1) ncc) (i + 1) (encI (es ++ [er]))) := by rw [Hid, encI_snoc]; exact hown
        have HD5 : Hid (w5.ownsRow w.heap.size 45 5 (.slice da ds.length dc) ds.length (enc ds)) := row_gb (row_gb HD2.out (gb_none (ba _ _)) (by simp)) hgrow (fun x hx e => HN.out x e hx)
        have HV5 : Hid (FivB w5 wr.heap.size (.int .i64 d) (.string nm) (.int .i64 p) (.int .i64 u) (.int .i64 v)) := (HV2.out.below (ba _ _)).gb hgrow (fun e => by have := (row_lt HO.out e.symm).2; omega)
        obtain ⟨v0, v1, v2, v3, v4, _, _, _, _, _, hlv⟩ := HV5.out
        clear hown hgrow hnil hat
        by_cases hez : er = 0
        · subst hez
          have hlds : ds.length + 1 ≤ 4096 := by
            have h := (inv_book inv_nil (l.take (i + 1))).len
            rw [HNX.out] at h; simpa using h
          have HOW2 : Hid ((w5.alloc (.cells #[.int .i64 d, .string nm, .int .i64 p, .int .i64 u, .int .i64 v] 45)).ownsRow w.heap.size 45 5 (.slice da ds.length dc) ds.length (enc ds)) := row_gb HD5.out (gb_none (ba _ _)) (by simp)
          go_wp2_with (at_builtin; refine wpList_append_own_at _ rfl _ _ 22 rfl w.heap.size 45 i45 (.agg #[.int .i64 0, .string ⟨#[]⟩, .int .i64 0, .int .i64 0, .int .i64 0]) 5 48 Tryz.underlying22 hi45 hz0 hz1 hz2 rfl (by decide) (.slice da ds.length dc) ds.length (enc ds) rfl HOW2.out ⟨w5.heap.size, 0, none⟩ 1 1 [.int .i64 d, .string nm, .int .i64 p, .int .i64 u, .int .i64 v] rfl rfl (five_cells w5 _ _ _ _ _ _ _ rfl) (by intro z hz; simp at hz; rcases hz with rfl | rfl | rfl | rfl | rfl <;> rfl) (by unfold maxLen; omega) (by omega) (by have := B5.size; simp; omega) ?_)
          intro nv' w6 hown hgrow hnil hat
          obtain ⟨ma, mcc, rfl⟩ := row_slice hown
          have B6 : Below w.heap.size w w6 := (B5.alloc B5.size _).grown hgrow (by have := B5.size; simp; omega) (fun k e => (row_lt HD5.out e).1)
          have HO6 : Hid (w6.ownsRow w.heap.size 36 1 (.slice na (i + 1) ncc) (i + 1) (encI (es ++ [0]))) := row_gb (row_gb HO5.out (gb_none (ba _ _)) (by simp)) hgrow (fun x hx e => HN5.out x hx e)
          have HN6 : Hid (∀ x, (Value.slice na (i + 1) ncc).ownBlock = some x → (Value.slice ma (ds ++ [nrm (d, nm, p, u, v)]).length mcc).ownBlock ≠ some x) := fun x hx e => by
            rcases hat with h | h
            · have e2 : (Value.slice ma (ds.length + 1) mcc).ownBlock = some x := by simpa [Value.ownBlock] using e
              rw [h] at e2; exact HN5.out x hx e2
            · have e2 : (Value.slice ma (ds.length + 1) mcc).ownBlock = some x := by simpa [Value.ownBlock] using e
              rw [h] at e2; have := (row_lt HO5.out hx).2; simp at e2; omega
          have HD6 : Hid (w6.ownsRow w.heap.size 45 5 (.slice ma (ds ++ [nrm (d, nm, p, u, v)]).length mcc) (ds ++ [nrm (d, nm, p, u, v)]).length (enc (ds ++ [nrm (d, nm, p, u, v)]))) := by
            rw [Hid, hnr.out, enc_snoc, List.length_append]
            exact hown
          have HNX2 : Hid (bookT [] (l.take (i + 1)) = (es ++ [0], ds ++ [nrm (d, nm, p, u, v)])) := by rw [Hid, HNX.out]; simp
          clear hown hgrow hnil hat
          go_wp2
          go_roundw
          case rel => exact ⟨i + 1, na, ma, ncc, mcc, es ++ [0], ds ++ [nrm (d, nm, p, u, v)], by go_num, rfl, by simp, by omega, HNX2, HO6, HD6, HN6, B6⟩
          case measure => simp [intOf]; omega
        · have hez' : (er == 0) = false := by simpa using hez
          have HNX2 : Hid (bookT [] (l.take (i + 1)) = (es ++ [er], ds)) := by rw [Hid, HNX.out]; simp [hez]
          go_wp2
          go_roundw
          case rel => exact ⟨i + 1, na, da, ncc, dc, es ++ [er], ds, by go_num, rfl, rfl, by omega, HNX2, HO5, HD5, HN5, B5⟩
          case measure => simp [intOf]; omega
      ·
        have hdn3 : (d != 3) = true := by simp [hd]
        have hnr : Hid (nrm (d, nm, p, u, v) = (d, nm, 0, u, v)) := by rw [Hid]; simp [nrm, hd]
        obtain ⟨Y, hY⟩ : ∃ Y, X.setCell ⟨wr.heap.size, 2, none⟩ (.int .i64 0) = Y := ⟨_, rfl⟩
        have gY : X.grownBy Y (some wr.heap.size) := by rw [← hY]; exact gb_set (gb_refl _ _) 2 _
        have gXY : wr.grownBy Y (some wr.heap.size) := gb_trans (gb_below hbX) gY
        have gNX : ∀ x, some wr.heap.size = some x → x = wr.heap.size ∨ wr.heap.size ≤ x := fun x e => by simp at e; omega
        have HVY : Hid (FivB Y wr.heap.size (.int .i64 d) (.string nm) (.int .i64 0) (.int .i64 u) (.int .i64 v)) := by
          rw [← hY]
          have h := HVX.out
          exact ⟨(sc_other (by simp)).trans h.c0, (sc_other (by simp)).trans h.c1, sc_same h.c2, (sc_other (by simp)).trans h.c3, (sc_other (by simp)).trans h.c4, sc_frozen.trans h.f0, sc_frozen.trans h.f1, sc_frozen.trans h.f2, sc_frozen.trans h.f3, sc_frozen.trans h.f4, by simpa using h.lt⟩
        have hpY : (-9223372036854775808 : Int) ≤ 0 ∧ (0 : Int) ≤ 9223372036854775807 := by omega
        have BY : Below w.heap.size w Y := by rw [← hY]; exact bs (bt hbl hbX) hrs _
        obtain ⟨y0, y1, y2, y3, y4, _, _, _, _, _, hly⟩ := HVY.out
        clear hd
        have HOY : Hid (Y.ownsRow w.heap.size 36 1 (.slice oa i oc) i (encI es)) := row_gb HO.out gXY (fun x hx e => by have := (row_lt HO.out hx).2; rcases gNX x e with h | h <;> omega)
        have HDY : Hid (Y.ownsRow w.heap.size 45 5 (.slice da ds.length dc) ds.length (enc ds)) := row_gb HD.out gXY (fun x hx e => by have := (row_lt HD.out hx).2; rcases gNX x e with h | h <;> omega)
        have kd := rdo_any Y.heap.size (.slice da ds.length dc) ds (d, nm, 0, u, v) Y (Nat.le_refl _) (ents_of_row HDY.out (by omega) (fun x hx => by have := inv_names HINV.out x hx; omega)) HINV.out hnm hpY
        have kd2 : Calls Tryz.prog 17 #[.slice da ds.length dc, ev (d, nm, 0, u, v)] Y fun x w' => x = .returned (.int .i64 er) ∧ Below Y.heap.size Y w' := by
          have h := kd
          rw [← hnr.out, HHER.out] at h
          rw [hnr.out] at h
          exact h
        clear kd
        go_wp2_with fail
        refine kd2.mono ?_
        rintro e9 w2 ⟨rfl, hb2⟩
        have hs2 := hb2.size
        have HV2 : Hid (FivB w2 wr.heap.size (.int .i64 d) (.string nm) (.int .i64 0) (.int .i64 u) (.int .i64 v)) := HVY.out.below hb2
        have B2 : Below w.heap.size w w2 := bt BY hb2
        have HO2 : Hid (w2.ownsRow w.heap.size 36 1 (.slice oa i oc) i (encI es)) := row_gb HOY.out (gb_none hb2) (by simp)
        have HD2 : Hid (w2.ownsRow w.heap.size 45 5 (.slice da ds.length dc) ds.length (enc ds)) := row_gb HDY.out (gb_none hb2) (by simp)
        have HOW : Hid ((w2.alloc (.cells #[.int .i64 er] 36)).ownsRow w.heap.size 36 1 (.slice oa i oc) i (encI es)) := row_gb HO2.out (gb_none (ba _ _)) (by simp)
        clear kd2
        go_wp2_with (at_builtin; refine wpList_append_own_at _ rfl _ _ 23 rfl w.heap.size 36 i36 (.int .i64 0) 1 8 Tryz.underlying23 hi36 hy0 hy1 hy2 rfl (by decide) (.slice oa i oc) i (encI es) rfl HOW.out ⟨w2.heap.size, 0, none⟩ 1 1 [.int .i64 er] rfl rfl (one_cells w2 _ _ _ rfl) (by intro z hz; simp at hz; subst hz; rfl) (by unfold maxLen; omega) (by omega) (by simp; omega) ?_)
        intro nv' w5 hown hgrow hnil hat
        obtain ⟨na, ncc, rfl⟩ := row_slice hown
        have hs5 : w2.heap.size + 1 ≤ w5.heap.size := by have := hgrow.size; simpa using this
        have B5 : Below w.heap.size w w5 := (B2.alloc B2.size _).grown hgrow (by have := B2.size; simp; omega) (fun k e => (row_lt HO2.out e).1)
        have HN5 : Hid (∀ x, (Value.slice na (i + 1) ncc).ownBlock = some x → (Value.slice da ds.length dc).ownBlock ≠ some x) := fun x hx e => by
          rcases hat with h | h
          · rw [h] at hx; exact HN.out x hx e
          · rw [h] at hx; have := (row_lt HD2.out e).2; simp at hx; omega
        have HO5 : Hid (w5.ownsRow w.heap.size 36 1 (.slice na (i + 1) ncc) (i + 1) (encI (es ++ [er]))) := by rw [Hid, encI_snoc]; exact hown
        have HD5 : Hid (w5.ownsRow w.heap.size 45 5 (.slice da ds.length dc) ds.length (enc ds)) := row_gb (row_gb HD2.out (gb_none (ba _ _)) (by simp)) hgrow (fun x hx e => HN.out x e hx)
        have HV5 : Hid (FivB w5 wr.heap.size (.int .i64 d) (.string nm) (.int .i64 0) (.int .i64 u) (.int .i64 v)) := (HV2.out.below (ba _ _)).gb hgrow (fun e => by have := (row_lt HO.out e.symm).2; omega)
        obtain ⟨v0, v1, v2, v3, v4, _, _, _, _, _, hlv⟩ := HV5.out
        clear hown hgrow hnil hat
        by_cases hez : er = 0
        · subst hez
          have hlds : ds.length + 1 ≤ 4096 := by
            have h := (inv_book inv_nil (l.take (i + 1))).len
            rw [HNX.out] at h; simpa using h
          have HOW2 : Hid ((w5.alloc (.cells #[.int .i64 d, .string nm, .int .i64 0, .int .i64 u, .int .i64 v] 45)).ownsRow w.heap.size 45 5 (.slice da ds.length dc) ds.length (enc ds)) := row_gb HD5.out (gb_none (ba _ _)) (by simp)
          go_wp2_with (at_builtin; refine wpList_append_own_at _ rfl _ _ 22 rfl w.heap.size 45 i45 (.agg #[.int .i64 0, .string ⟨#[]⟩, .int .i64 0, .int .i64 0, .int .i64 0]) 5 48 Tryz.underlying22 hi45 hz0 hz1 hz2 rfl (by decide) (.slice da ds.length dc) ds.length (enc ds) rfl HOW2.out ⟨w5.heap.size, 0, none⟩ 1 1 [.int .i64 d, .string nm, .int .i64 0, .int .i64 u, .int .i64 v] rfl rfl (five_cells w5 _ _ _ _ _ _ _ rfl) (by intro z hz; simp at hz; rcases hz with rfl | rfl | rfl | rfl | rfl <;> rfl) (by unfold maxLen; omega) (by omega) (by have := B5.size; simp; omega) ?_)
          intro nv' w6 hown hgrow hnil hat
          obtain ⟨ma, mcc, rfl⟩ := row_slice hown
          have B6 : Below w.heap.size w w6 := (B5.alloc B5.size _).grown hgrow (by have := B5.size; simp; omega) (fun k e => (row_lt HD5.out e).1)
          have HO6 : Hid (w6.ownsRow w.heap.size 36 1 (.slice na (i + 1) ncc) (i + 1) (encI (es ++ [0]))) := row_gb (row_gb HO5.out (gb_none (ba _ _)) (by simp)) hgrow (fun x hx e => HN5.out x hx e)
          have HN6 : Hid (∀ x, (Value.slice na (i + 1) ncc).ownBlock = some x → (Value.slice ma (ds ++ [nrm (d, nm, p, u, v)]).length mcc).ownBlock ≠ some x) := fun x hx e => by
            rcases hat with h | h
            · have e2 : (Value.slice ma (ds.length + 1) mcc).ownBlock = some x := by simpa [Value.ownBlock] using e
              rw [h] at e2; exact HN5.out x hx e2
            · have e2 : (Value.slice ma (ds.length + 1) mcc).ownBlock = some x := by simpa [Value.ownBlock] using e
              rw [h] at e2; have := (row_lt HO5.out hx).2; simp at e2; omega
          have HD6 : Hid (w6.ownsRow w.heap.size 45 5 (.slice ma (ds ++ [nrm (d, nm, p, u, v)]).length mcc) (ds ++ [nrm (d, nm, p, u, v)]).length (enc (ds ++ [nrm (d, nm, p, u, v)]))) := by
            rw [Hid, hnr.out, enc_snoc, List.length_append]
            exact hown
          have HNX2 : Hid (bookT [] (l.take (i + 1)) = (es ++ [0], ds ++ [nrm (d, nm, p, u, v)])) := by rw [Hid, HNX.out]; simp
          clear hown hgrow hnil hat
          go_wp2
          go_roundw
          case rel => exact ⟨i + 1, na, ma, ncc, mcc, es ++ [0], ds ++ [nrm (d, nm, p, u, v)], by go_num, rfl, by simp, by omega, HNX2, HO6, HD6, HN6, B6⟩
          case measure => simp [intOf]; omega
        · have hez' : (er == 0) = false := by simpa using hez
          have HNX2 : Hid (bookT [] (l.take (i + 1)) = (es ++ [er], ds)) := by rw [Hid, HNX.out]; simp [hez]
          go_wp2
          go_roundw
          case rel => exact ⟨i + 1, na, da, ncc, dc, es ++ [er], ds, by go_num, rfl, rfl, by omega, HNX2, HO5, HD5, HN5, B5⟩
          case measure => simp [intOf]; omega
    · have hi' : i = l.length := by omega
      subst hi'
      have HZ : Hid (bookT [] l = (es, ds)) := by have h := HK.out; rw [List.take_length] at h; exact h
      go_wp2
      refine bodyPost_ret (v := .tuple #[.slice oa l.length oc, .slice da ds.length dc]) (by simp [results, Tryz.results5, go_sem]) rfl ⟨_, _, rfl, by rw [HZ.out]; exact HO.out, by rw [HZ.out]; exact HD.out, hbl⟩
end Go.Proofs.YtfibbjngllelbaaGreat

namespace Go.Proofs.YtfibbjngllelbaaGreat
open Go.RowKit Go.Shelf Go.Proofs.YtfibbjngllelbaaGreat.Ds

set_option maxRecDepth 100000 in
set_option maxHeartbeats 4000000 in
theorem purseBooks_walk (B : Nat) (lv : Value) (l : List En) (w : World) (hB : B ≤ w.heap.size) (hx : Ents w B lv l) (hbd : ∀ e ∈ l, -9223372036854775808 ≤ e.2.2.1 ∧ e.2.2.1 ≤ 9223372036854775807) (hln : l.length ≤ 4398046511104) :
    Calls Tryz.prog 3 #[lv] w fun e w' => e = .returned (.bool true) ∧ Below w.heap.size w w' := by
  have HX : Hid (Ents w B lv l) := hx
  have kb := fun W (hW : B ≤ W.heap.size) (h : Ents W B lv l) => pbook_any B lv l W hW h hln hbd
  have ka := fun W (hW : B ≤ W.heap.size) (h : Ents W B lv l) => all_any B lv l W hW h hbd hln
  obtain ⟨a, c, rfl, hc, hl⟩ := hx.slice
  obtain ⟨dn, hdn⟩ : ∃ dn, Hid ((bookT [] l).2 = dn) := ⟨_, rfl⟩
  obtain ⟨es, hes⟩ : ∃ es, Hid ((bookT [] l).1 = es) := ⟨_, rfl⟩
  have HEL : Hid (es.length = l.length) := by rw [Hid, ← hes.out, book_len]
  have hinv : Inv dn := by have h := inv_book inv_nil l; rw [hdn.out] at h; exact h
  have HINV : Hid (Inv dn) := hinv
  have hdl := hinv.len
  have hnl : (nLs dn).length ≤ 64 := by rw [nLs_len]; exact hinv.ops
  clear hx hbd hinv
  go_enter Tryz.func3, Tryz.ntmps3
  go_wp2_with fail
  refine (kb _ hB HX.out).mono ?_
  rintro e1 w1 ⟨er, en, nv, sv, bv, rfl, hb1, r0, r1, r2, r3, r4⟩
  rw [hdn.out] at r1 r2 r3 r4
  rw [hes.out] at r0
  have hs1 := hb1.size
  obtain ⟨a0, c0, rfl⟩ := row_slice r0
  obtain ⟨a1, c1, rfl⟩ := row_slice r1
  obtain ⟨a2, c2, rfl⟩ := row_slice r2
  obtain ⟨a3, c3, rfl⟩ := row_slice r3
  obtain ⟨a4, c4, rfl⟩ := row_slice r4
  obtain ⟨A1, hA1⟩ : ∃ A1, w1.alloc (.cells #[.slice a0 l.length c0, .slice a1 dn.length c1, .slice a2 (nLs dn).length c2, .slice a3 (nLs dn).length c3, .slice a4 (nLs dn).length c4, .bool true] 27) = A1 := ⟨_, rfl⟩
  have hb1A : Below w1.heap.size w1 A1 := by rw [← hA1]; exact ba _ _
  have hsA1 : A1.heap.size = w1.heap.size + 1 := by rw [← hA1]; simp
  have HS1 : Hid (SixB A1 w1.heap.size (.slice a0 l.length c0) (.slice a1 dn.length c1) (.slice a2 (nLs dn).length c2) (.slice a3 (nLs dn).length c3) (.slice a4 (nLs dn).length c4) (.bool true)) := by rw [← hA1]; exact SixB.new _ _ _ _ _ _ _ _ rfl
  have HR0 : Hid (A1.ownsRow w.heap.size 36 1 (.slice a0 l.length c0) l.length (encI es)) := row_gb r0 (gb_none hb1A) (by simp)
  have HE1 : Hid (Ents A1 A1.heap.size (.slice a1 dn.length c1) dn) := (ents_of_row (row_gb r1 (gb_none hb1A) (by simp)) (by omega) (fun x hx => by have := inv_names HINV.out x hx; omega))
  have HN1 : Hid (A1.ownsRow w.heap.size 9 1 (.slice a2 (nLs dn).length c2) (nLs dn).length ((nLs dn).map encStr)) := row_gb r2 (gb_none hb1A) (by simp)
  have HP1 : Hid (A1.ownsRow w.heap.size 35 2 (.slice a3 (nLs dn).length c3) (nLs dn).length (encQ ((nLs dn).map (spQ dn)))) := row_gb r3 (gb_none hb1A) (by simp)
  have HQ1 : Hid (A1.ownsRow w.heap.size 35 2 (.slice a4 (nLs dn).length c4) (nLs dn).length (encQ ((nLs dn).map (buQ dn)))) := row_gb r4 (gb_none hb1A) (by simp)
  have BA1 : Below w.heap.size w A1 := bt hb1 hb1A
  clear r0 r1 r2 r3 r4 kb
  go_wp2_with fail
  refine (ka _ (by omega) (HX.out.at hB BA1)).mono ?_
  rintro e2 w2 ⟨ev2, dv2, rfl, r0, r1, hb2⟩
  rw [hdn.out] at r1
  rw [hes.out] at r0
  obtain ⟨p0, d0, rfl⟩ := row_slice r0
  obtain ⟨p1, d1, rfl⟩ := row_slice r1
  have hs2 := hb2.size
  have B2 : Below w.heap.size w w2 := bt BA1 hb2
  have HS2 : Hid (SixB w2 w1.heap.size (.slice a0 l.length c0) (.slice a1 dn.length c1) (.slice a2 (nLs dn).length c2) (.slice a3 (nLs dn).length c3) (.slice a4 (nLs dn).length c4) (.bool true)) := HS1.out.below hb2
  have HR2 : Hid (w2.ownsRow A1.heap.size 36 1 (.slice p0 l.length d0) l.length (encI es)) := r0
  have HD2 : Hid (w2.ownsRow A1.heap.size 45 5 (.slice p1 dn.length d1) dn.length (enc dn)) := r1
  have ks := sameErrs_any w.heap.size A1.heap.size (.slice a0 l.length c0) (.slice p0 l.length d0) es w2 (by rw [HEL.out]; exact row_gb HR0.out (gb_none hb2) (by simp)) (by rw [HEL.out]; exact HR2.out) (by rw [HEL.out]; omega)
  have y5 := HS2.out.c5
  have y0 := HS2.out.c0
  clear r0 r1 ka
  go_wp2_with fail
  refine ks.mono ?_
  rintro e3 w3 ⟨rfl, hb3⟩
  have hs3 := hb3.size
  have HS3 : Hid (SixB w3 w1.heap.size (.slice a0 l.length c0) (.slice a1 dn.length c1) (.slice a2 (nLs dn).length c2) (.slice a3 (nLs dn).length c3) (.slice a4 (nLs dn).length c4) (.bool true)) := HS2.out.below hb3
  have B3 : Below w.heap.size w w3 := bt B2 hb3
  have HE3 : Hid (Ents w3 w3.heap.size (.slice p1 dn.length d1) dn) := ents_of_row (row_gb HD2.out (gb_none hb3) (by simp)) (by omega) (fun x hx => by have := inv_names HINV.out x hx; omega)
  have ksm := sameEntries_any w3.heap.size (.slice a1 dn.length c1) (.slice p1 dn.length d1) dn dn w3 (Nat.le_refl _) ((HE1.out.at (Nat.le_refl _) (bt hb2 hb3)).mono (by omega)) HE3.out true (by simp)
  have y1 := HS3.out.c1
  clear ks y5 y0
  go_wp2_with fail
  refine ksm.mono ?_
  rintro e4 w4 ⟨rfl, hb4⟩
  have hs4 := hb4.size
  have B4 : Below w.heap.size w w4 := bt B3 hb4
  have HE4 : Hid (Ents w4 w4.heap.size (.slice p1 dn.length d1) dn) := (HE3.out.at (Nat.le_refl _) hb4).mono hs4
  have HS4 : Hid (SixB w4 w1.heap.size (.slice a0 l.length c0) (.slice a1 dn.length c1) (.slice a2 (nLs dn).length c2) (.slice a3 (nLs dn).length c3) (.slice a4 (nLs dn).length c4) (.bool true)) := HS3.out.below hb4
  have kn := rnames_any w4.heap.size (.slice p1 dn.length d1) dn w4 (Nat.le_refl _) HE4.out hdl
  clear ksm y1
  go_wp2_with fail
  refine kn.mono ?_
  rintro e5 w5 ⟨nv5, rfl, hrow5, hb5⟩
  obtain ⟨q5, u5, rfl⟩ := row_slice hrow5
  have hs5 := hb5.size
  have B5 : Below w.heap.size w w5 := bt B4 hb5
  have HE5 : Hid (Ents w5 w5.heap.size (.slice p1 dn.length d1) dn) := (HE4.out.at (Nat.le_refl _) hb5).mono hs5
  have HS5 : Hid (SixB w5 w1.heap.size (.slice a0 l.length c0) (.slice a1 dn.length c1) (.slice a2 (nLs dn).length c2) (.slice a3 (nLs dn).length c3) (.slice a4 (nLs dn).length c4) (.bool true)) := HS4.out.below hb5
  have HNN : Hid (w5.ownsRow w4.heap.size 9 1 (.slice q5 (nLs dn).length u5) (nLs dn).length ((nLs dn).map encStr)) := hrow5
  have b15 : Below A1.heap.size A1 w5 := bt hb2 (bt hb3 (bt hb4 hb5))
  have HN5 : Hid (w5.ownsRow w.heap.size 9 1 (.slice a2 (nLs dn).length c2) (nLs dn).length ((nLs dn).map encStr)) := row_gb HN1.out (gb_none b15) (by simp)
  have HP5 : Hid (w5.ownsRow w.heap.size 35 2 (.slice a3 (nLs dn).length c3) (nLs dn).length (encQ ((nLs dn).map (spQ dn)))) := row_gb HP1.out (gb_none b15) (by simp)
  have HQ5 : Hid (w5.ownsRow w.heap.size 35 2 (.slice a4 (nLs dn).length c4) (nLs dn).length (encQ ((nLs dn).map (buQ dn)))) := row_gb HQ1.out (gb_none b15) (by simp)
  have y2 := HS5.out.c2
  have y3 := HS5.out.c3
  have y4 := HS5.out.c4
  clear kn hrow5 hA1
  go_wp2_with fail
  go_loopw [63] (fun s wr => ∃ (i : Nat), s = .int .i64 (i : Int) ∧ i ≤ (nLs dn).length ∧ Below w5.heap.size w5 wr) (fun s _ => (nLs dn).length - (intOf s).toNat)
  case atStart => exact ⟨0, rfl, Nat.zero_le _, Below.refl _ _⟩
  case round =>
    obtain ⟨i, rfl, hi, hbr⟩ := hrel
    have hsr := hbr.size
    by_cases h1 : i < (nLs dn).length
    · obtain ⟨x, hx⟩ := get_lt h1
      have hxm : x ∈ nLs dn := List.mem_of_getElem? hx
      obtain ⟨hbud, hxl⟩ := nam_ok HINV.out hxm
      obtain ⟨sp, hsp⟩ : ∃ sp, spQ dn x = sp := ⟨_, rfl⟩
      obtain ⟨bu, hbu⟩ : ∃ bu, buQ dn x = bu := ⟨_, rfl⟩
      rw [hbu] at hbud
      have hspt : spentT dn ⟨x.toArray⟩ = (sp, 0) := Prod.ext hsp (HINV.out.ok _)
      have HSPT : Hid (spentT dn ⟨x.toArray⟩ = (sp, 0)) := hspt
      have HBUD : Hid (budT dn ⟨x.toArray⟩ = some bu) := hbud
      have gs := encQ_get (l := (nLs dn).map (spQ dn)) (i := i) (x := sp) (by simp [hx, hsp])
      have gb' := encQ_get (l := (nLs dn).map (buQ dn)) (i := i) (x := bu) (by simp [hx, hbu])
      have gn : ((nLs dn).map encStr)[i]? = some (encStr x) := by simp [hx]
      have HGS : Hid (((encQ ((nLs dn).map (spQ dn)))[i * 2]? = some (.int .i64 sp.1) ∧ (encQ ((nLs dn).map (spQ dn)))[i * 2 + 1]? = some (.int .i64 sp.2)) ∧ ((encQ ((nLs dn).map (buQ dn)))[i * 2]? = some (.int .i64 bu.1) ∧ (encQ ((nLs dn).map (buQ dn)))[i * 2 + 1]? = some (.int .i64 bu.2)) ∧ ((nLs dn).map encStr)[i]? = some (encStr x)) := ⟨gs, gb', gn⟩
      obtain ⟨g0, rfl, _, _, k0⟩ := row_cell (row_gb HNN.out (gb_none hbr) (by simp)) gn
      have z1 : (i : Int) < ((nLs dn).length : Int) := by omega
      have hoks : ∀ e ∈ dn, OkR e.2.2.2 := fun e he => (bad_ok (HINV.out.bad e he).1).2.2.2
      have ksp := rspent_any wr.heap.size (.slice p1 dn.length d1) dn ⟨x.toArray⟩ wr (Nat.le_refl _) ((HE5.out.at (Nat.le_refl _) hbr).mono hsr) hoks sp 0 HSPT.out
      clear hx hxm hbud hsp hbu hspt gs gb' gn hoks
      go_wp2_with fail
      refine ksp.mono ?_
      rintro e6 w6 ⟨rfl, hb6⟩
      obtain ⟨X6, hX6⟩ : ∃ X6, w6.alloc (.cells #[.int .i64 sp.1, .int .i64 sp.2] 35) = X6 := ⟨_, rfl⟩
      have bX6 : Below w6.heap.size w6 X6 := by rw [← hX6]; exact ba _ _
      have HT6 : Hid (TwoB X6 w6.heap.size (.int .i64 sp.1) (.int .i64 sp.2)) := by rw [← hX6]; exact TwoB.new _ _ _ 35 _ rfl
      have b6 : Below w5.heap.size w5 X6 := bt hbr (bt hb6 bX6)
      have kbu := budget_any X6.heap.size (.slice p1 dn.length d1) dn ⟨x.toArray⟩ X6 (Nat.le_refl _) ((HE5.out.at (Nat.le_refl _) b6).mono b6.size) (some bu) HBUD.out
      clear ksp
      go_wp2_with fail
      refine kbu.mono ?_
      rintro e7 w7 ⟨rfl, hb7⟩
      simp only [Option.getD_some, Option.isSome_some]
      obtain ⟨X7, hX7⟩ : ∃ X7, w7.alloc (.cells #[.int .i64 bu.1, .int .i64 bu.2] 35) = X7 := ⟨_, rfl⟩
      have bX7 : Below w7.heap.size w7 X7 := by rw [← hX7]; exact ba _ _
      have HT7 : Hid (TwoB X7 w7.heap.size (.int .i64 bu.1) (.int .i64 bu.2)) := by rw [← hX7]; exact TwoB.new _ _ _ 35 _ rfl
      have HT67 : Hid (TwoB X7 w6.heap.size (.int .i64 sp.1) (.int .i64 sp.2)) := (HT6.out.below hb7).below bX7
      have b7 : Below w5.heap.size w5 X7 := bt b6 (bt hb7 bX7)
      have g0' : w5.grownBy X7 none := gb_none b7
      obtain ⟨n1, rfl, _, _, j1⟩ := row_cell (row_gb HN5.out g0' (by simp)) HGS.out.2.2
      obtain ⟨n3, rfl, _, _, j3⟩ := row_cell (row_gb HP5.out g0' (by simp)) HGS.out.1.1
      obtain ⟨n3', e3', _, _, j3'⟩ := row_cell (row_gb HP5.out g0' (by simp)) HGS.out.1.2
      obtain ⟨n5, rfl, _, _, j5⟩ := row_cell (row_gb HQ5.out g0' (by simp)) HGS.out.2.1.1
      obtain ⟨n5', e5', _, _, j5'⟩ := row_cell (row_gb HQ5.out g0' (by simp)) HGS.out.2.1.2
      simp only [Option.some.injEq, Addr.mk.injEq, and_true] at e3' e5'
      subst e3' e5'
      have S7 := HS5.out.below b7
      have x2 := S7.c2
      have x3 := S7.c3
      have x4 := S7.c4
      obtain ⟨t0, t1, _, _, _⟩ := HT67.out
      obtain ⟨o0, o1, _, _, _⟩ := HT7.out
      have hne1 := fun W => rat_neq sp.1 sp.2 sp.1 sp.2 false (by simp) W
      have hne2 := fun W => rat_neq bu.1 bu.2 bu.1 bu.2 false (by simp) W
      clear kbu S7 g0' HX HINV
      go_wp2
      go_quiet (fail)
      go_wp2
      go_roundw
      case rel => exact ⟨i + 1, by go_num, by omega, below_drewN b7 _⟩
      case measure => simp [intOf]; omega
    · have hi' : i = (nLs dn).length := by omega
      subst hi'
      go_wp2
      go_ret
      exact ⟨rfl, bt B5 hbr⟩
end Go.Proofs.YtfibbjngllelbaaGreat
