import Derived.Test.YtfcbkcoagoncoaaQf28
import Derived.Test.YtfcbkcoagoncoaaQf34
import Derived.Test.YtfcbkcoagoncoaaQf35
import Derived.Deep.RegionHeld3
namespace Go.Proofs.Ytfcbkcoagoncoaa
open Go.RowKit Go.Proofs.Ytfcbkcoagoncoaa.Ds Go.Proofs.Ytfcbkcoagoncoaa.Crd

theorem cutP {P Q : Prop} (h : P) (k : P → Q) : Q := k h
theorem num_nil (w : World) (B : Nat) : Num w B (.slice none 0 0) [] := ⟨none, 0, rfl, Nat.le_refl _, by simp, fun h => absurd rfl h⟩
theorem xsT_len (u d : Int) (h : List Int) : (xsT u d h).length = h.length := by simp [xsT]
theorem xsT_take {u d : Int} {h : List Int} {i : Nat} {x : Int} (hx : h[i]? = some x) : (xsT u d h).take (i + 1) = (xsT u d h).take i ++ [(u + ((h.length : Int) - 1) * d) * x - tl h * d] := by
  rw [List.take_add_one]
  congr 1
  simp [xsT, hx]
/-- how large what is guessed may be -/
theorem guess_bd {S x z d : Int} (hS0 : 0 ≤ S) (hS : S ≤ 1073741824) (hx0 : 0 ≤ x) (hx : x ≤ 4096) (hz0 : 0 ≤ z) (hz : z ≤ 32768) (hd0 : 0 ≤ d) (hd : d ≤ 1073741824) :
    0 ≤ S * x ∧ S * x ≤ 4398046511104 ∧ 0 ≤ z * d ∧ z * d ≤ 35184372088832 := by
  have h1 := Int.mul_nonneg hS0 hx0
  have h2 := Int.mul_le_mul hS hx hx0 (by decide)
  have h3 := Int.mul_nonneg hz0 hd0
  have h4 := Int.mul_le_mul hz hd hd0 (by decide)
  omega
theorem xs_bd {u d : Int} {h : List Int} {k : Nat} (hk : h.length = k + 1) (hP : Peo u d k []) (hg : ∀ x ∈ h, 0 ≤ x ∧ x ≤ 4096) : ∀ y ∈ xsT u d h, y.natAbs ≤ 1152921504606846976 := by
  intro y hy
  obtain ⟨x, hx, rfl⟩ := List.mem_map.1 hy
  have hz := tl_nn hg
  have h7 := hP.k7
  have h1 := hP.d1
  have h2 := hP.du
  have h3 := hP.u30
  have h4 := hP.S
  have h5 : 0 ≤ (k : Int) * d := Int.mul_nonneg (by omega) (by omega)
  have e : u + ((h.length : Int) - 1) * d = u + k * d := by rw [hk, show ((k + 1 : Nat) : Int) - 1 = k by omega]
  have := guess_bd (S := u + k * d) (x := x) (z := tl h) (d := d) (by omega) h4 (hg x hx).1 (hg x hx).2 hz.1 (by omega) (by omega) (by omega)
  rw [e]
  omega

set_option maxHeartbeats 1000000 in
set_option maxRecDepth 100000 in
/-- crowd.Guess -/
theorem guess_fr (B : Nat) (u d : Int) (v : Value) (hs : List Int) (w : World) (hB : B ≤ w.heap.size) (hx : Num w B v hs) (l : List Int) (r e : Int) (hr : gueT u d hs = (l, r, e)) :
    Calls Try.prog 9 #[rv u d, v] w fun y w' => ∃ v', y = .returned (.tuple #[v', .int .i64 r, .int .i64 e]) ∧ Num w' w'.heap.size v' l ∧ Below w.heap.size w w' ∧ ∀ b o n c, v' = .slice (some ⟨b, o, none⟩) n c → w.heap.size ≤ b := by
  have HN : Hid (Num w B v hs) := hx
  obtain ⟨va, vc, rfl, hvc, hvl, _⟩ := hx
  obtain ⟨e0, he0⟩ : ∃ e0, peoE u d (hs.length : Int) [] = e0 := ⟨_, rfl⟩
  have kc := wrong_any B u d (hs.length : Int) (.slice none 0 0) [] (w.alloc (.cells #[.int .i64 u, .int .i64 d] 23)) (by simp; omega) (num_nil _ _) e0 he0
  unfold gueT at hr
  rw [he0] at hr
  by_cases c0 : e0 = 0
  · subst c0
    obtain ⟨k, hk, hP⟩ := peo_ok he0
    have hkl : hs.length = k + 1 := by omega
    have hk7 := hP.k7
    have hl8 : hs.length ≤ 8 := by omega
    have hl1 : 1 ≤ hs.length := by omega
    have hd1 := hP.d1
    have hdu := hP.du
    have hu30 := hP.u30
    have hS30 := hP.S
    simp only [ne_eq, not_true_eq_false, if_false] at hr
    by_cases c1 : u = d
    · rw [if_pos c1] at hr
      simp only [Prod.mk.injEq] at hr
      obtain ⟨rfl, rfl, rfl⟩ := hr
      have c1' : (u == d) = true := by simpa using c1
      subst c1
      clear HN he0 hP hk hkl
      go_enter Try.func9, Try.ntmps9
      go_wp2_with fail
      refine kc.mono ?_
      rintro x w1 ⟨rfl, hb1⟩
      have G1 := bt (ba _ _) hb1
      obtain ⟨hc1, hf1⟩ := bcell hb1
      have r1 : w1.cell? ⟨w.heap.size, 0, none⟩ = some (.int .i64 u) := by rw [hc1 _ _ (by simp)]; simp [go_sem]
      have r2 : w1.cell? ⟨w.heap.size, 1, none⟩ = some (.int .i64 u) := by rw [hc1 _ _ (by simp)]; simp [go_sem]
      clear kc hb1 hc1 hf1
      go_wp2
      exact bodyPost_ret (v := .tuple #[.slice none 0 0, .int .i64 0, .int .i64 6]) (by simp [results, Try.results9, go_sem]) rfl ⟨_, rfl, num_nil _ _, G1, fun b o n c e => by simp at e⟩
    · rw [if_neg c1] at hr
      have c1' : (u == d) = false := by simpa using c1
      have hdu' : d < u := by omega
      obtain ⟨z, ez, hz⟩ : ∃ z ez, (if hs.any badN = true then ((0 : Int), (8 : Int)) else (tl hs, 0)) = (z, ez) := ⟨_, _, rfl⟩
      have kt := fun (W : World) (h : Below w.heap.size w W) => together_any B (.slice va hs.length vc) hs W (HN.out.at hB h) (by omega) z ez hz
      by_cases c2 : hs.any badN = true
      · rw [if_pos c2] at hr hz
        simp only [Prod.mk.injEq] at hr hz
        obtain ⟨rfl, rfl, rfl⟩ := hr
        obtain ⟨rfl, rfl⟩ := hz
        clear he0 hP hk hkl
        go_enter Try.func9, Try.ntmps9
        go_wp2_with fail
        refine kc.mono ?_
        rintro x w1 ⟨rfl, hb1⟩
        have G1 := bt (ba _ _) hb1
        obtain ⟨hc1, hf1⟩ := bcell hb1
        have r1 : w1.cell? ⟨w.heap.size, 0, none⟩ = some (.int .i64 u) := by rw [hc1 _ _ (by simp)]; simp [go_sem]
        have r2 : w1.cell? ⟨w.heap.size, 1, none⟩ = some (.int .i64 d) := by rw [hc1 _ _ (by simp)]; simp [go_sem]
        clear kc hb1 hc1 hf1
        go_wp2_with fail
        refine (kt _ G1).mono ?_
        rintro x w2 ⟨rfl, rfl⟩
        clear kt
        go_wp2
        exact bodyPost_ret (v := .tuple #[.slice none 0 0, .int .i64 0, .int .i64 8]) (by simp [results, Try.results9, go_sem]) rfl ⟨_, rfl, num_nil _ _, G1, fun b o n c e => by simp at e⟩
      · have c2' : hs.any badN = false := by simpa using c2
        rw [if_neg c2] at hr hz
        simp only [Prod.mk.injEq] at hr hz
        obtain ⟨hl, hrr, rfl⟩ := hr
        obtain ⟨htz, rfl⟩ := hz
        have hgd := all_good c2'
        have HGd : Hid (∀ x ∈ hs, 0 ≤ x ∧ x ≤ 4096) := hgd
        have hzb := tl_nn hgd
        rw [htz] at hzb
        obtain ⟨S, hS⟩ : ∃ S, u + ((hs.length : Int) - 1) * d = S := ⟨_, rfl⟩
        have hSb : 0 ≤ S ∧ S ≤ 1073741824 := by
          rw [← hS, hkl, show ((k + 1 : Nat) : Int) - 1 = k by omega]
          have h5 : 0 ≤ (k : Int) * d := Int.mul_nonneg (by omega) (by omega)
          omega
        have ks := spread_any u d (hs.length : Int) (by omega) (by omega) (by omega) (by omega) (by omega) hu30
        rw [hS] at ks
        have HXT : Hid (∀ i x, hs[i]? = some x → (xsT u d hs).take (i + 1) = (xsT u d hs).take i ++ [S * x - z * d]) := by
          intro i x hx
          rw [xsT_take hx, hS, htz]
        have HXB : Hid (∀ y ∈ xsT u d hs, y.natAbs ≤ 1152921504606846976) := xs_bd hkl hP hgd
        obtain ⟨ln, hln⟩ := Int.eq_ofNat_of_zero_le (show 0 ≤ u - d by omega)
        have hln1 : 1 ≤ ln := by omega
        have hln2 : ln ≤ 1073741824 := by omega
        have HLn : Hid (u - d = (ln : Int)) := hln
        have hwln : IntKind.i64.wrap (u - d) = (ln : Int) := by rw [hln]; exact wrap_id (by omega)
        have HL : Hid ((xsT u d hs).map (fun x => x / (gdL ln (xsT u d hs) : Int)) = l ∧ ((ln / gdL ln (xsT u d hs) : Nat) : Int) = r) := by
          rw [hln, Int.toNat_natCast] at hl hrr
          exact ⟨hl, by rw [← hrr]; exact Int.natCast_ediv _ _⟩
        clear he0 hP hl hrr hgd hS htz hln c2 c2' hk hkl
        go_enter Try.func9, Try.ntmps9
        go_wp2_with fail
        refine kc.mono ?_
        rintro x w1 ⟨rfl, hb1⟩
        have G1 := bt (ba _ _) hb1
        obtain ⟨hc1, hf1⟩ := bcell hb1
        have r1 : w1.cell? ⟨w.heap.size, 0, none⟩ = some (.int .i64 u) := by rw [hc1 _ _ (by simp)]; simp [go_sem]
        have r2 : w1.cell? ⟨w.heap.size, 1, none⟩ = some (.int .i64 d) := by rw [hc1 _ _ (by simp)]; simp [go_sem]
        have hz1 : w.heap.size < w1.heap.size := by have := hb1.size; simp at this; omega
        clear kc hb1 hc1 hf1
        go_wp2_with fail
        refine (kt _ G1).mono ?_
        rintro x w2 ⟨rfl, hw2⟩
        have hwy := hw2.symm
        subst hwy
        clear kt hw2
        go_wp2_with fail
        go_loopw [4, 32] (fun pv s wr => ∃ (i : Nat) (ds : List Int), s = .int .i64 (i : Int) ∧ i ≤ hs.length ∧ Hid (ds = (xsT u d hs).take i ∧ ds.length = i) ∧ Hid (Ow wr w1.heap.size pv ds) ∧ Below w1.heap.size w1 wr) (fun _ s _ => hs.length - (intOf s).toNat)
        case atStart => exact ⟨0, [], rfl, Nat.zero_le _, ⟨by simp, rfl⟩, Ow.nil _ _, Below.refl _ _⟩
        case round =>
          obtain ⟨i, ds, rfl, hit, HD, HO, hbl⟩ := hrel
          have hbs := hbl.size
          obtain ⟨pa, pc, rfl⟩ := HO.out.slice
          have HC : Hid (∀ W, Below wr.heap.size wr W → W.cell? ⟨w.heap.size, 0, none⟩ = some (.int .i64 u) ∧ W.cell? ⟨w.heap.size, 1, none⟩ = some (.int .i64 d)) := fun W hW =>
            ⟨((bt hbl hW).cell (p := ⟨w.heap.size, 0, none⟩) hz1).trans r1, ((bt hbl hW).cell (p := ⟨w.heap.size, 1, none⟩) hz1).trans r2⟩
          have HC1 : Hid (∀ W, Below w1.heap.size w1 W → W.cell? ⟨w.heap.size, 0, none⟩ = some (.int .i64 u) ∧ W.cell? ⟨w.heap.size, 1, none⟩ = some (.int .i64 d)) := fun W hW =>
            ⟨(hW.cell (p := ⟨w.heap.size, 0, none⟩) hz1).trans r1, (hW.cell (p := ⟨w.heap.size, 1, none⟩) hz1).trans r2⟩
          obtain ⟨s1, s2⟩ := HC.out wr (Below.refl _ _)
          have GB : Below w.heap.size w wr := bt G1 hbl
          by_cases h1 : i < hs.length
          · obtain ⟨b, o, c, x, hv, hc, hb, hxi, hcell⟩ := (HN.out.at hB GB).get h1
            simp only [Value.slice.injEq, true_and] at hv
            obtain ⟨rfl, rfl⟩ := hv
            obtain ⟨x0, x1⟩ := HGd.out x (List.mem_of_getElem? hxi)
            have gb := guess_bd hSb.1 hSb.2 x0 x1 hzb.1 (by omega) (show 0 ≤ d by omega) (by omega)
            obtain ⟨P, hPp⟩ : ∃ P, S * x = P := ⟨_, rfl⟩
            obtain ⟨Q, hQq⟩ : ∃ Q, z * d = Q := ⟨_, rfl⟩
            rw [hPp, hQq] at gb
            obtain ⟨X, hX⟩ : ∃ X, P - Q = X := ⟨_, rfl⟩
            have f1 : IntKind.i64.wrap (S * x) = P := by rw [hPp]; exact wrap_id (by omega)
            have f2 : IntKind.i64.wrap (z * d) = Q := by rw [hQq]; exact wrap_id (by omega)
            have f3 : IntKind.i64.wrap (P - Q) = X := by rw [hX]; exact wrap_id (by omega)
            have HXi : Hid ((xsT u d hs).take (i + 1) = (xsT u d hs).take i ++ [X]) := by rw [Hid, HXT.out i x hxi, hPp, hQq, hX]
            clear hxi hPp hQq hX
            go_wp2_with fail
            go_region_held3 (fun w' => w'.cell? ⟨w.heap.size, 0, none⟩ = some (.int .i64 u) ∧ w'.cell? ⟨w.heap.size, 1, none⟩ = some (.int .i64 d))
              (first | with_reducible assumption | (refine HC.out _ ?_; first | with_reducible exact (Below.refl _ wr).drew | with_reducible exact hz5 | with_reducible exact bal hz5 _) | (refine HC1.out _ ?_; with_reducible exact hz6))
              (first
                | (refine step_ow (w5.alloc (.cells #[.int .i64 X] 3)) rfl _ _ rfl w1.heap.size (w5.heap.size + 1) ds.length pa pc ds [X] (ds ++ [X]) rfl rfl ((HO.out.keep hz5).keep (ba _ _)) (.slice (some ⟨w5.heap.size, 0, none⟩) 1 1) rfl (num_one w5 X) rfl ?_ ?_ (ds.length + 1) rfl ?_; (have := HD.out.2; simp; omega); (have := hz5.size; simp; omega); intro a6 c6 w6 hO6 hG6 hB6; refine cutP (P := Below w1.heap.size w1 w6) ?_ (fun hz6 => ?_); (exact (bal (bt hbl hz5) _).trans hB6))
                | (go_at_call 25; refine (ks _).mono ?_; rintro y w5 ⟨rfl, hb5⟩; refine cutP (P := Below wr.heap.size wr w5) ?_ (fun hz5 => ?_); (with_reducible exact bt (Below.refl _ wr).drew hb5)))
            have hz7 : Below w.heap.size w w6 := bt G1 hz6
            have HO7 : Hid (Ow w6 w1.heap.size (.slice a6 (ds.length + 1) c6) (ds ++ [X])) := hO6
            have HD7 : Hid (ds ++ [X] = (xsT u d hs).take (i + 1) ∧ (ds ++ [X]).length = i + 1) := ⟨by rw [HXi.out, HD.out.1], by simp [HD.out.2]⟩
            clear hO6 hG6 hB6 f1 f2 f3
            go_wp2
            go_roundw
            case rel => exact ⟨i + 1, _, by go_num, by omega, HD7, HO7, hz6⟩
            case measure => simp [intOf]; omega
          · obtain rfl : i = hs.length := by omega
            have hds : ds = xsT u d hs := by rw [HD.out.1, List.take_of_length_le (by rw [xsT_len]; exact Nat.le_refl _)]
            obtain ⟨G, hG⟩ : ∃ G, gdL ln (xsT u d hs) = G := ⟨_, rfl⟩
            obtain ⟨q, hq⟩ : ∃ q, ln / G = q := ⟨_, rfl⟩
            have hdl : ds.length ≤ 1024 := by rw [HD.out.2]; omega
            have kl := wlowest_any wr.heap.size (.slice pa ds.length pc) ds ln hdl hln1 hln2 wr (Nat.le_refl _) (HO.out.num (by omega)) (by rw [hds]; exact HXB.out) G (by rw [hds]; exact hG) q hq
            have HL2 : Hid (ds.map (fun x => x / (G : Int)) = l ∧ (q : Int) = r) := by
              have h3 := HL.out
              rw [hG, hq, ← hds] at h3
              exact h3
            clear hds hG hq HD HL
            go_wp2_with fail
            refine kl.mono ?_
            rintro y w5 ⟨g5, rfl, hg5, hR5, hb5⟩
            have G5 : Below w.heap.size w w5 := bt GB hb5
            have HN5 : Hid (Num w5 w5.heap.size (.slice (some ⟨g5, 0, none⟩) ds.length ds.length) l) := by
              have h3 := hR5.num (B := w5.heap.size) (by simp; omega) hR5.lt
              rw [HL2.out.1, ← HL2.out.1, List.length_map, HL2.out.1] at h3
              exact h3
            obtain rfl : (q : Int) = r := HL2.out.2
            clear kl hR5 hb5
            go_wp2
            exact bodyPost_ret (v := .tuple #[.slice (some ⟨g5, 0, none⟩) ds.length ds.length, .int .i64 (q : Int), .int .i64 0]) (by simp [results, Try.results9, go_sem]) rfl ⟨_, rfl, HN5.out, G5, fun b o n c e => by simp only [Value.slice.injEq, Option.some.injEq, Addr.mk.injEq] at e; have := GB.size; omega⟩
  · rw [if_pos c0] at hr
    simp only [Prod.mk.injEq] at hr
    obtain ⟨rfl, rfl, rfl⟩ := hr
    have c1 : (e0 != 0) = true := by simpa using c0
    clear HN he0
    go_enter Try.func9, Try.ntmps9
    go_wp2_with fail
    refine kc.mono ?_
    rintro x w1 ⟨rfl, hb1⟩
    have G1 := bt (ba _ _) hb1
    clear kc hb1
    go_wp2
    exact bodyPost_ret (v := .tuple #[.slice none 0 0, .int .i64 0, .int .i64 e0]) (by simp [results, Try.results9, go_sem]) rfl ⟨_, rfl, num_nil _ _, G1, fun b o n c e => by simp at e⟩
theorem guess_any (B : Nat) (u d : Int) (v : Value) (hs : List Int) (w : World) (hB : B ≤ w.heap.size) (hx : Num w B v hs) (l : List Int) (r e : Int) (hr : gueT u d hs = (l, r, e)) :
    Calls Try.prog 9 #[rv u d, v] w fun y w' => ∃ v', y = .returned (.tuple #[v', .int .i64 r, .int .i64 e]) ∧ Num w' w'.heap.size v' l ∧ Below w.heap.size w w' :=
  (guess_fr B u d v hs w hB hx l r e hr).mono fun _ _ ⟨v', h1, h2, h3, _⟩ => ⟨v', h1, h2, h3⟩
end Go.Proofs.Ytfcbkcoagoncoaa
