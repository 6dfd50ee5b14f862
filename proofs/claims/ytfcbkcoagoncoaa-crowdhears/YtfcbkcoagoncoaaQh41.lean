import Derived.Test.YtfcbkcoagoncoaaQh40
import Derived.Test.YtfcbkcoagoncoaaQh30
namespace Go.Proofs.Ytfcbkcoagoncoaa
open Go.RowKit Go.Proofs.Ytfcbkcoagoncoaa.Ds Go.Proofs.Ytfcbkcoagoncoaa.Crd

def drT (xs : List Int) (G k : Nat) : List Int := (xs.take k).map (fun x => x.tdiv (G : Int)) ++ xs.drop k
theorem drT_zero (xs : List Int) (G : Nat) : drT xs G 0 = xs := by simp [drT]
theorem drT_all (xs : List Int) (G : Nat) : drT xs G xs.length = xs.map (fun x => x.tdiv (G : Int)) := by simp [drT]
theorem drT_len {xs : List Int} {G k : Nat} (h : k ≤ xs.length) : (drT xs G k).length = xs.length := by simp [drT]; omega
theorem drT_get {xs : List Int} {G k : Nat} {x : Int} (h : xs[k]? = some x) : (drT xs G k)[k]? = some x := by
  have hk := (List.getElem?_eq_some_iff.1 h).1
  unfold drT
  rw [List.getElem?_append_right (by simp; omega), List.getElem?_drop]
  have : k + (k - (List.map (fun x => x.tdiv (G : Int)) (List.take k xs)).length) = k := by simp; omega
  rw [this, h]
theorem drT_set {xs : List Int} {G k : Nat} {x : Int} (h : xs[k]? = some x) : (drT xs G k).set k (x.tdiv (G : Int)) = drT xs G (k + 1) := by
  have hk := (List.getElem?_eq_some_iff.1 h).1
  unfold drT
  rw [List.take_add_one, h, List.set_append_right _ _ (by simp; omega), List.drop_eq_getElem_cons hk]
  have : k - (List.map (fun x => x.tdiv (G : Int)) (List.take k xs)).length = 0 := by simp; omega
  rw [this]
  simp only [List.set_cons_zero, List.map_append, List.append_assoc, Option.toList_some, List.map_cons, List.map_nil, List.cons_append, List.nil_append]

set_option maxHeartbeats 2000000 in
set_option maxRecDepth 100000 in
/-- the reference's Guess -/
theorem rguess_any (B : Nat) (u d : Int) (v : Value) (hs : List Int) (w : World) (hB : B ≤ w.heap.size) (hx : Num w B v hs) (l : List Int) (r e : Int) (hr : gueT u d hs = (l, r, e)) :
    Calls Try.prog 10 #[rv u d, v] w fun y w' => ∃ v', y = .returned (.tuple #[v', .int .i64 r, .int .i64 e]) ∧ Num w' w'.heap.size v' l ∧ Below w.heap.size w w' := by
  have HN : Hid (Num w B v hs) := hx
  obtain ⟨va, vc, rfl, hvc, hvl, _⟩ := hx
  obtain ⟨e0, he0⟩ : ∃ e0, peoE u d (hs.length : Int) [] = e0 := ⟨_, rfl⟩
  have kc := people_any B u d (hs.length : Int) (.slice none 0 0) [] (w.alloc (.cells #[.int .i64 u, .int .i64 d] 23)) (by simp; omega) (num_nil _ _) e0 he0
  unfold gueT at hr
  rw [he0] at hr
  by_cases c0 : e0 = 0
  · subst c0
    obtain ⟨k, hk, hP⟩ := peo_ok he0
    have hkl : hs.length = k + 1 := by omega
    have hk7 := hP.k7
    have hl8 : hs.length ≤ 8 := by omega
    have hl1 : 1 ≤ hs.length := by omega
    have hd1 := hP.d1
    have hdu := hP.du
    have hu30 := hP.u30
    have hS30 := hP.S
    simp only [ne_eq, not_true_eq_false, if_false] at hr
    by_cases c1 : u = d
    · rw [if_pos c1] at hr
      simp only [Prod.mk.injEq] at hr
      obtain ⟨rfl, rfl, rfl⟩ := hr
      have c1' : (u == d) = true := by simpa using c1
      subst c1
      clear HN he0 hP hk hkl
      go_enter Try.func10, Try.ntmps10
      go_wp2_with fail
      refine kc.mono ?_
      rintro x w1 ⟨rfl, hb1⟩
      have G1 := bt (ba _ _) hb1
      obtain ⟨hc1, hf1⟩ := bcell hb1
      have r1 : w1.cell? ⟨w.heap.size, 0, none⟩ = some (.int .i64 u) := by rw [hc1 _ _ (by simp)]; simp [go_sem]
      have r2 : w1.cell? ⟨w.heap.size, 1, none⟩ = some (.int .i64 u) := by rw [hc1 _ _ (by simp)]; simp [go_sem]
      clear kc hb1 hc1 hf1
      go_wp2
      exact bodyPost_ret (v := .tuple #[.slice none 0 0, .int .i64 0, .int .i64 6]) (by simp [results, Try.results10, go_sem]) rfl ⟨_, rfl, num_nil _ _, G1⟩
    · rw [if_neg c1] at hr
      have c1' : (u == d) = false := by simpa using c1
      have hdu' : d < u := by omega
      obtain ⟨ln, hln⟩ := Int.eq_ofNat_of_zero_le (show 0 ≤ u - d by omega)
      have hln1 : 1 ≤ ln := by omega
      have hln2 : ln ≤ 1073741824 := by omega
      have hwln : IntKind.i64.wrap (u - d) = (ln : Int) := by rw [hln]; exact wrap_id (by omega)
      obtain ⟨S, hS⟩ : ∃ S, u + ((hs.length : Int) - 1) * d = S := ⟨_, rfl⟩
      obtain ⟨Q0, hQ0⟩ : ∃ Q0, ((hs.length : Int) - 1) * d = Q0 := ⟨_, rfl⟩
      have hQb : 0 ≤ Q0 ∧ Q0 ≤ 1073741824 := by
        rw [← hQ0, hkl, show ((k + 1 : Nat) : Int) - 1 = k by omega]
        have h5 : 0 ≤ (k : Int) * d := Int.mul_nonneg (by omega) (by omega)
        omega
      have hSb : 0 ≤ S ∧ S ≤ 1073741824 := by
        rw [← hS, hkl, show ((k + 1 : Nat) : Int) - 1 = k by omega]
        have h5 : 0 ≤ (k : Int) * d := Int.mul_nonneg (by omega) (by omega)
        omega
      have g1 : IntKind.i64.wrap ((hs.length : Int) - 1) = (hs.length : Int) - 1 := wrap_id (by omega)
      have g2 : IntKind.i64.wrap (((hs.length : Int) - 1) * d) = Q0 := by rw [hQ0]; exact wrap_id (by omega)
      have g3 : IntKind.i64.wrap (u + Q0) = S := by rw [← hQ0, hS]; exact wrap_id (by omega)
      have HR : Hid ((if hs.any badN = true then (([] : List Int), (0 : Int), (8 : Int)) else ((xsT u d hs).map fun x => x / (gdL ln (xsT u d hs) : Int), (ln : Int) / (gdL ln (xsT u d hs) : Int), 0)) = (l, r, e)) := by
        rw [hln, Int.toNat_natCast] at hr
        exact hr
      have HXB : Hid ((∀ x ∈ hs, 0 ≤ x ∧ x ≤ 4096) → ∀ y ∈ xsT u d hs, y.natAbs ≤ 1152921504606846976) := fun hg => xs_bd hkl hP hg
      have HXT : Hid (∀ i x, hs[i]? = some x → (xsT u d hs).take (i + 1) = (xsT u d hs).take i ++ [S * x - tl hs * d]) := by
        intro i x hx
        rw [xsT_take hx, hS]
      clear he0 hP hr hS hQ0 hln hk hkl
      go_enter Try.func10, Try.ntmps10
      go_wp2_with fail
      refine kc.mono ?_
      rintro x w1 ⟨rfl, hb1⟩
      have G1 := bt (ba _ _) hb1
      obtain ⟨hc1, hf1⟩ := bcell hb1
      have r1 : w1.cell? ⟨w.heap.size, 0, none⟩ = some (.int .i64 u) := by rw [hc1 _ _ (by simp)]; simp [go_sem]
      have r2 : w1.cell? ⟨w.heap.size, 1, none⟩ = some (.int .i64 d) := by rw [hc1 _ _ (by simp)]; simp [go_sem]
      have hz1 : w.heap.size < w1.heap.size := by have := hb1.size; simp at this; omega
      clear kc hb1 hc1 hf1
      go_wp2_with fail
      go_loopw [8, 31] (fun a s wr => ∃ (i : Nat) (z : Int), s = .int .i64 (i : Int) ∧ a = .int .i64 z ∧ i ≤ hs.length ∧ Hid (tl (hs.take i) = z ∧ hs.any badN = (hs.drop i).any badN) ∧ 0 ≤ z ∧ z ≤ 4096 * i ∧ wr = w1) (fun _ s _ => hs.length - (intOf s).toNat)
      case atStart => exact ⟨0, 0, rfl, rfl, Nat.zero_le _, ⟨by simp [tl, smL], rfl⟩, by omega, by omega, rfl⟩
      case round =>
        obtain ⟨i, z, rfl, rfl, hit, HZ, z0, z1, hwr⟩ := hrel
        have hwy := hwr.symm
        subst hwy
        clear hwr
        by_cases h1 : i < hs.length
        · obtain ⟨b, o, c, x, hv, hc, hb, hxi, hcell⟩ := (HN.out.at hB G1).get h1
          simp only [Value.slice.injEq, true_and] at hv
          obtain ⟨rfl, rfl⟩ := hv
          have HS : Hid ((hs.drop i).any badN = (badN x || (hs.drop (i + 1)).any badN) ∧ tl (hs.take (i + 1)) = z + x) := ⟨any_drop hxi, by rw [tl_take_succ hxi, HZ.out.1]⟩
          clear hxi
          by_cases cx : x < 0 ∨ 4096 < x
          · have hre : (l, r, e) = ([], 0, 8) := by
              rw [← HR.out, HZ.out.2, HS.out.1]
              have : badN x = true := by unfold badN; simp; omega
              simp [this]
            simp only [Prod.mk.injEq] at hre
            obtain ⟨rfl, rfl, rfl⟩ := hre
            clear HR HXT HXB
            rcases cx with cx | cx
            · go_wp2
              exact bodyPost_ret (v := .tuple #[.slice none 0 0, .int .i64 0, .int .i64 8]) (by simp [results, Try.results10, go_sem]) rfl ⟨_, rfl, num_nil _ _, G1⟩
            · have cx' : ¬ x < 0 := by omega
              go_wp2
              exact bodyPost_ret (v := .tuple #[.slice none 0 0, .int .i64 0, .int .i64 8]) (by simp [results, Try.results10, go_sem]) rfl ⟨_, rfl, num_nil _ _, G1⟩
          · have hb0 : badN x = false := by unfold badN; simp; omega
            have cx1 : ¬ x < 0 := by omega
            have cx2 : ¬ 4096 < x := by omega
            clear cx
            go_wp2
            go_roundw
            case rel => exact ⟨i + 1, z + x, by go_num, by go_num, by omega, ⟨HS.out.2, by rw [HZ.out.2, HS.out.1, hb0]; rfl⟩, by omega, by omega, trivial⟩
            case measure => simp [intOf]; omega
        · obtain rfl : i = hs.length := by omega
          have hnb : hs.any badN = false := by rw [HZ.out.2]; simp
          have htz : tl hs = z := by have := HZ.out.1; rw [List.take_of_length_le (Nat.le_refl _)] at this; exact this
          have HGd : Hid (∀ x ∈ hs, 0 ≤ x ∧ x ≤ 4096) := all_good hnb
          have hzb : z ≤ 32768 := by omega
          have HR2 : Hid ((xsT u d hs).map (fun x => x / (gdL ln (xsT u d hs) : Int)) = l ∧ (ln : Int) / (gdL ln (xsT u d hs) : Int) = r ∧ 0 = e) := by
            have h3 := HR.out
            rw [hnb] at h3
            simp only [Bool.false_eq_true, if_false, Prod.mk.injEq] at h3
            exact h3
          have HXT2 : Hid (∀ i x, hs[i]? = some x → (xsT u d hs).take (i + 1) = (xsT u d hs).take i ++ [S * x - z * d]) := by rw [← htz]; exact HXT
          have HXB2 : Hid (∀ y ∈ xsT u d hs, y.natAbs ≤ 1152921504606846976) := HXB.out HGd.out
          clear HR HXT HXB HZ htz hnb
          go_wp2_with fail
          go_loopw [11, 12, 52] (fun pv gv s wr => ∃ (i G : Nat) (ds : List Int), s = .int .i64 (i : Int) ∧ gv = .int .i64 (G : Int) ∧ i ≤ hs.length ∧ Hid (ds = (xsT u d hs).take i ∧ ds.length = i ∧ gdL ln ds = G) ∧ Hid (Ow wr w1.heap.size pv ds) ∧ Below w1.heap.size w1 wr ∧ 1 ≤ G ∧ G ≤ 1073741824) (fun _ _ s _ => hs.length - (intOf s).toNat)
          case atStart => exact ⟨0, ln, [], rfl, rfl, Nat.zero_le _, ⟨by simp, rfl, rfl⟩, Ow.nil _ _, Below.refl _ _, hln1, hln2⟩
          case round =>
            obtain ⟨i, G, ds, rfl, rfl, hit, HD, HO, hbl, hG1, hG2⟩ := hrel
            have hbs := hbl.size
            obtain ⟨pa, pc, rfl⟩ := HO.out.slice
            have s1 : wr.cell? ⟨w.heap.size, 0, none⟩ = some (.int .i64 u) := (hbl.cell (p := ⟨w.heap.size, 0, none⟩) hz1).trans r1
            have s2 : wr.cell? ⟨w.heap.size, 1, none⟩ = some (.int .i64 d) := (hbl.cell (p := ⟨w.heap.size, 1, none⟩) hz1).trans r2
            have GB : Below w.heap.size w wr := bt G1 hbl
            by_cases h1 : i < hs.length
            · obtain ⟨b, o, c, x, hv, hc, hb, hxi, hcell⟩ := (HN.out.at hB GB).get h1
              simp only [Value.slice.injEq, true_and] at hv
              obtain ⟨rfl, rfl⟩ := hv
              obtain ⟨x0, x1⟩ := HGd.out x (List.mem_of_getElem? hxi)
              have gb := guess_bd hSb.1 hSb.2 x0 x1 z0 hzb (show 0 ≤ d by omega) (by omega)
              obtain ⟨P, hPp⟩ : ∃ P, x * S = P := ⟨_, rfl⟩
              obtain ⟨Q, hQq⟩ : ∃ Q, z * d = Q := ⟨_, rfl⟩
              rw [Int.mul_comm S x, hPp, hQq] at gb
              obtain ⟨X, hX⟩ : ∃ X, P - Q = X := ⟨_, rfl⟩
              have f1 : IntKind.i64.wrap (x * S) = P := by rw [hPp]; exact wrap_id (by omega)
              have f2 : IntKind.i64.wrap (z * d) = Q := by rw [hQq]; exact wrap_id (by omega)
              have f3 : IntKind.i64.wrap (P - Q) = X := by rw [hX]; exact wrap_id (by omega)
              have HXi : Hid ((xsT u d hs).take (i + 1) = (xsT u d hs).take i ++ [X]) := by rw [Hid, HXT2.out i x hxi, Int.mul_comm S x, hPp, hQq, hX]
              have HOa : Hid (Ow (wr.alloc (.cells #[.int .i64 X] 3)) w1.heap.size (.slice pa ds.length pc) ds) := HO.out.keep (ba _ _)
              have hXb : -1152921504606846976 ≤ X ∧ X ≤ 1152921504606846976 := by omega
              clear hxi hPp hQq hX
              by_cases cX : X < 0
              · obtain ⟨a, ha⟩ : ∃ a : Nat, X.natAbs = a := ⟨_, rfl⟩
                have fn : IntKind.i64.wrap (-X) = (a : Int) := by rw [← ha, show ((X.natAbs : Nat) : Int) = -X by omega]; exact wrap_id (by omega)
                have HAb : Hid (X.natAbs = a) := ha
                have hab : (a : Int) ≤ 1152921504606846976 := by omega
                have kd := refDivisor_any a G (by omega) hG1 (by omega)
                obtain ⟨G2, hG2'⟩ : ∃ G2, Nat.gcd a G = G2 := ⟨_, rfl⟩
                rw [hG2'] at kd
                have HD2 : Hid (ds ++ [X] = (xsT u d hs).take (i + 1) ∧ (ds ++ [X]).length = i + 1 ∧ gdL ln (ds ++ [X]) = G2) := by
                  refine ⟨by rw [HXi.out, HD.out.1], by simp [HD.out.2.1], ?_⟩
                  rw [gdL_snoc, HD.out.2.2, HAb.out, Nat.gcd_comm]
                  exact hG2'
                have hG2a : 1 ≤ G2 := by rw [← hG2']; exact Nat.gcd_pos_of_pos_right _ hG1
                have hG2b : G2 ≤ 1073741824 := by
                  have : Nat.gcd a G ≤ G := Nat.gcd_le_right _ hG1
                  omega
                clear hG2' ha
                go_wp2_with (at_builtin; refine wpList_ow _ rfl _ _ rfl w1.heap.size (wr.heap.size + 1) ds.length pa pc ds [X] (ds ++ [X]) rfl rfl HOa.out (.slice (some ⟨wr.heap.size, 0, none⟩) 1 1) rfl (num_one wr X) rfl ?p1 ?p2 (ds.length + 1) rfl ?_)
                case p1 => have := HD.out.2.1; simp; omega
                case p2 => first | omega | (simp; omega)
                intro a3 c3 w3 hO3 hG3 hB3
                have hb3 : Below w1.heap.size w1 w3 := (bal hbl _).trans hB3
                have HO3 : Hid (Ow w3 w1.heap.size (.slice a3 (ds.length + 1) c3) (ds ++ [X])) := hO3
                clear hO3 hG3 hB3
                go_wp2_with fail
                refine (kd _).mono ?_
                rintro y w4 ⟨rfl, hw4⟩
                have hwy := hw4.symm
                subst hwy
                clear kd hw4
                go_wp2
                go_roundw
                case rel => exact ⟨i + 1, G2, _, by go_num, rfl, by omega, HD2, HO3, hb3, hG2a, hG2b⟩
                case measure => simp [intOf]; omega
              · obtain ⟨a, ha⟩ := Int.eq_ofNat_of_zero_le (show 0 ≤ X by omega)
                have HAb : Hid (X.natAbs = a) := by rw [Hid, ha]; simp
                have hab : (a : Int) ≤ 1152921504606846976 := by omega
                subst ha
                have kd := refDivisor_any a G (by omega) hG1 (by omega)
                obtain ⟨G2, hG2'⟩ : ∃ G2, Nat.gcd a G = G2 := ⟨_, rfl⟩
                rw [hG2'] at kd
                have HD2 : Hid (ds ++ [(a : Int)] = (xsT u d hs).take (i + 1) ∧ (ds ++ [(a : Int)]).length = i + 1 ∧ gdL ln (ds ++ [(a : Int)]) = G2) := by
                  refine ⟨by rw [HXi.out, HD.out.1], by simp [HD.out.2.1], ?_⟩
                  rw [gdL_snoc, HD.out.2.2, HAb.out, Nat.gcd_comm]
                  exact hG2'
                have hG2a : 1 ≤ G2 := by rw [← hG2']; exact Nat.gcd_pos_of_pos_right _ hG1
                have hG2b : G2 ≤ 1073741824 := by
                  have : Nat.gcd a G ≤ G := Nat.gcd_le_right _ hG1
                  omega
                clear hG2'
                go_wp2_with (at_builtin; refine wpList_ow _ rfl _ _ rfl w1.heap.size (wr.heap.size + 1) ds.length pa pc ds [(a : Int)] (ds ++ [(a : Int)]) rfl rfl HOa.out (.slice (some ⟨wr.heap.size, 0, none⟩) 1 1) rfl (num_one wr (a : Int)) rfl ?p1 ?p2 (ds.length + 1) rfl ?_)
                case p1 => have := HD.out.2.1; simp; omega
                case p2 => first | omega | (simp; omega)
                intro a3 c3 w3 hO3 hG3 hB3
                have hb3 : Below w1.heap.size w1 w3 := (bal hbl _).trans hB3
                have HO3 : Hid (Ow w3 w1.heap.size (.slice a3 (ds.length + 1) c3) (ds ++ [(a : Int)])) := hO3
                clear hO3 hG3 hB3
                go_wp2_with fail
                refine (kd _).mono ?_
                rintro y w4 ⟨rfl, hw4⟩
                have hwy := hw4.symm
                subst hwy
                clear kd hw4
                go_wp2
                go_roundw
                case rel => exact ⟨i + 1, G2, _, by go_num, rfl, by omega, HD2, HO3, hb3, hG2a, hG2b⟩
                case measure => simp [intOf]; omega
            · obtain rfl : i = hs.length := by omega
              have hds : ds = xsT u d hs := by rw [HD.out.1, List.take_of_length_le (by rw [xsT_len]; exact Nat.le_refl _)]
              have hdl : 0 < ds.length := by rw [HD.out.2.1]; omega
              have hdl8 : ds.length ≤ 8 := by rw [HD.out.2.1]; omega
              obtain ⟨g2, cap, hv2, hcap, hg2, hrow⟩ := rowi_of_owns rfl HO.out (owns_some HO.out hdl)
              simp only [Value.slice.injEq, true_and] at hv2
              obtain ⟨rfl, rfl⟩ := hv2
              have HGx : Hid (gdL ln (xsT u d hs) = G) := by rw [Hid, ← hds]; exact HD.out.2.2
              have HB : Hid (∀ y ∈ ds, y.natAbs ≤ 1152921504606846976) := by rw [hds]; exact HXB2
              have HL : Hid (ds.map (fun x => x / (G : Int)) = l ∧ (ln : Int) / (G : Int) = r ∧ 0 = e) := by
                have h3 := HR2.out
                rw [HGx.out, ← hds] at h3
                exact h3
              have HDv : Hid (∀ x ∈ ds, G ∣ x.natAbs) := by
                intro x hx
                rw [← HD.out.2.2]
                exact (gdL_dvd ds ln).2 x hx
              have HRow : Hid (RowI wr g2 ds) := hrow
              clear hds hrow HD HO HR2
              go_wp2_with fail
              go_loopw [86] (fun s wx => ∃ (q : Nat), s = .int .i64 (q : Int) ∧ q ≤ ds.length ∧ Hid (RowI wx g2 (drT ds G q)) ∧ Below w1.heap.size w1 wx) (fun s _ => ds.length - (intOf s).toNat)
              case atStart => exact ⟨0, rfl, Nat.zero_le _, (by rw [drT_zero]; exact HRow), hbl⟩
              case round =>
                obtain ⟨q, rfl, hq, HO, hbx⟩ := hrel
                have t1 : wr.cell? ⟨w.heap.size, 0, none⟩ = some (.int .i64 u) := (hbx.cell (p := ⟨w.heap.size, 0, none⟩) hz1).trans r1
                have t2 : wr.cell? ⟨w.heap.size, 1, none⟩ = some (.int .i64 d) := (hbx.cell (p := ⟨w.heap.size, 1, none⟩) hz1).trans r2
                have hneG : ¬ (G : Int) = 0 := by omega
                have hneG2 : ¬ G = 0 := by omega
                by_cases c2 : q < ds.length
                · obtain ⟨x, hxq⟩ := get_lt c2
                  have hxb := HB.out x (List.mem_of_getElem? hxq)
                  have cO := HO.out.cells q x (drT_get hxq)
                  have fO := HO.out.thaw q (by rw [drT_len hq]; exact c2)
                  obtain ⟨y, hy⟩ : ∃ y, x.tdiv (G : Int) = y := ⟨_, rfl⟩
                  have hyb : y.natAbs ≤ 1152921504606846976 := by rw [← hy, Int.natAbs_tdiv]; exact Nat.le_trans (Nat.div_le_self _ _) hxb
                  have hwy : IntKind.i64.wrap (x.tdiv (G : Int)) = y := by rw [hy]; exact wrap_id (by omega)
                  have HO2 : Hid (RowI (wr.setCell ⟨g2, q, none⟩ (.int .i64 y)) g2 (drT ds G (q + 1))) := by
                    have h3 := HO.out.set q y
                    rw [← hy, drT_set hxq, hy] at h3
                    exact h3
                  have hbx2 : Below w1.heap.size w1 (wr.setCell ⟨g2, q, none⟩ (.int .i64 y)) := bs hbx hg2 _
                  clear hxq
                  go_wp2
                  go_roundw
                  case rel => exact ⟨q + 1, by go_num, by omega, HO2, hbx2⟩
                  case measure => simp [intOf]; omega
                · obtain rfl : q = ds.length := by omega
                  obtain ⟨rN, hrN⟩ : ∃ rN, ln / G = rN := ⟨_, rfl⟩
                  have hri : (ln : Int) / (G : Int) = (rN : Int) := by rw [← hrN]; exact (Int.natCast_ediv _ _).symm
                  have hrb : rN ≤ 1073741824 := by rw [← hrN]; exact Nat.le_trans (Nat.div_le_self _ _) hln2
                  have hre : (rN : Int) = r ∧ 0 = e := by rw [← hri]; exact HL.out.2
                  obtain ⟨rfl, rfl⟩ := hre
                  have HE : Hid (RowI wr g2 l) := by
                    have h3 := HO.out
                    rw [drT_all, map_tdiv HDv.out, HL.out.1] at h3
                    exact h3
                  have HLl : Hid (l.length = ds.length) := by rw [Hid, ← HL.out.1]; simp
                  clear hrN HL
                  go_wp2
                  go_quiet (fail)
                  go_wp2
                  refine bodyPost_ret (v := .tuple #[.slice (some ⟨g2, 0, none⟩) ds.length pc, .int .i64 (rN : Int), .int .i64 0]) (by simp [results, Try.results10, go_sem]) rfl ⟨_, rfl, ?_, below_drewN (bt G1 hbx) _⟩
                  have h5 : RowI (wr.drewN nq) g2 l := HE.out.keep (below_drewN (Below.refl _ _) _) HE.out.lt
                  exact ⟨_, pc, by rw [HLl.out], by rw [HLl.out]; exact hcap, by rw [HLl.out]; omega, fun _ => ⟨g2, 0, rfl, h5.lt, fun j x hj => by rw [Nat.zero_add]; exact h5.cells j x hj⟩⟩
  · rw [if_pos c0] at hr
    simp only [Prod.mk.injEq] at hr
    obtain ⟨rfl, rfl, rfl⟩ := hr
    have c1 : (e0 != 0) = true := by simpa using c0
    clear HN he0
    go_enter Try.func10, Try.ntmps10
    go_wp2_with fail
    refine kc.mono ?_
    rintro x w1 ⟨rfl, hb1⟩
    have G1 := bt (ba _ _) hb1
    clear kc hb1
    go_wp2
    exact bodyPost_ret (v := .tuple #[.slice none 0 0, .int .i64 0, .int .i64 e0]) (by simp [results, Try.results10, go_sem]) rfl ⟨_, rfl, num_nil _ _, G1⟩
end Go.Proofs.Ytfcbkcoagoncoaa
