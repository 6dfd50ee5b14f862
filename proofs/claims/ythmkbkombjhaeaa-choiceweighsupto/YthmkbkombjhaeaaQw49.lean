import Derived.Test.YthmkbkombjhaeaaQw48
import Derived.BigQuiet
import Derived.Test.YthmkbkombjhaeaaQw27
namespace Go.Proofs.Ythmkbkombjhaeaa
open Go.RowKit Go.Proofs.Ythmkbkombjhaeaa.Ds

/-- Score -/
def scoT (k : List Pt) (l : List Int) : Int × Int × Int :=
  if k.all (scB l) = true then (if (scT k l).2 = 0 then meanT (scT k l).1 0 else (0, 0, (scT k l).2)) else (0, 0, 8)
def Scs (k : List Pt) (l : List Int) (i : Nat) : Prop := (k.take i).all (scB l) = true
theorem Scs.step {k : List Pt} {l : List Int} {i : Nat} {p : Pt} (h : Scs k l i) (hp : k[i]? = some p) (hb : scB l p = true) : Scs k l (i + 1) := by
  unfold Scs at *
  rw [List.take_add_one, hp, List.all_append, h]
  simp [hb]
theorem Scs.hit {k : List Pt} {l : List Int} {i : Nat} {p : Pt} (hp : k[i]? = some p) (hb : scB l p = false) : scoT k l = (0, 0, 8) := by
  unfold scoT
  rw [if_neg]
  intro h
  have := List.all_eq_true.1 h p (List.mem_of_getElem? hp)
  rw [hb] at this
  cases this
theorem Scs.all {k : List Pt} {l : List Int} {i : Nat} (h : Scs k l i) (hi : k.length ≤ i) : k.all (scB l) = true := by
  unfold Scs at h
  rwa [List.take_of_length_le hi] at h

set_option maxHeartbeats 4000000 in
set_option maxRecDepth 100000 in
theorem score_any (B : Nat) (v u : Value) (ts : List Tr) (l : List Int) (w : World) (hB : B ≤ w.heap.size) (hp : Parts w B v ts) (hu : Num w B u l) (x y er : Int) (hr : scoT (rd ts) l = (x, y, er)) :
    Calls Try.prog 12 #[v, u] w fun e w' => e = .returned (.tuple #[.int .i64 x, .int .i64 y, .int .i64 er]) ∧ Below w.heap.size w w' := by
  have HP : Hid (Parts w B v ts) := hp
  have HU : Hid (Num w B u l) := hu
  have HR : Hid (scoT (rd ts) l = (x, y, er)) := hr
  obtain ⟨a, c, rfl, hc, htl, _⟩ := hp
  obtain ⟨ua, uc, rfl, huc, hul, _⟩ := hu
  clear hr
  go_enter Try.func12, Try.ntmps12
  go_wp2
  obtain ⟨w1, hw1⟩ : ∃ w1, w.alloc (.cells #[.slice ua l.length uc] 24) = w1 := ⟨_, rfl⟩
  have G1 : Below w.heap.size w w1 := hw1 ▸ ba _ _
  have k0 : w1.cell? ⟨w.heap.size, 0, none⟩ = some (.slice ua l.length uc) := by rw [← hw1]; simp [go_sem]
  have klt : w.heap.size < w1.heap.size := by rw [← hw1]; simp
  rw [hw1]
  clear hw1
  go_loopw [12] (fun iv wr => ∃ i : Nat, i ≤ ts.length ∧ iv = .int .i64 (i : Int) ∧ Hid (Scs (rd ts) l i) ∧ Below w1.heap.size w1 wr) (fun iv _ => ts.length - (intOf iv).toNat)
  case atStart => exact ⟨0, Nat.zero_le _, rfl, rfl, Below.refl _ _⟩
  case round =>
    obtain ⟨i, hi, rfl, HS, hbl⟩ := hrel
    by_cases h1 : i < ts.length
    · obtain ⟨b, o, sa, sc, xs, k, rfl, hb, hs, c1, c2, hIx⟩ := HP.out.get hB (bt G1 hbl) h1
      have HT : Hid ((rd ts)[i]? = some (xs, k)) := by show _ = _; simp [rd, hs]
      have j0 : wr.cell? ⟨w.heap.size, 0, none⟩ = some (.slice ua l.length uc) := (hbl.cell (p := ⟨w.heap.size, 0, none⟩) klt).trans k0
      have jlt : w.heap.size < wr.heap.size := by have := hbl.size; omega
      have jne : ¬ w.heap.size = wr.heap.size := by omega
      clear hs
      by_cases cl : xs.length = 1
      · obtain ⟨z, rfl⟩ : ∃ z, xs = [z] := List.length_eq_one_iff.1 cl
        obtain ⟨ia, ic, he, hic, _, hcell⟩ := hIx
        obtain ⟨bi, oi, rfl, hbi, _, hcell⟩ := hcell (by simp)
        have hz := hcell 0 z (by simp)
        simp only [Value.slice.injEq] at he
        obtain ⟨rfl, -, rfl⟩ := he
        simp only [List.length_singleton, Nat.add_zero] at hic hz ⊢
        clear hcell cl
        have hbi2 : bi < wr.heap.size := by have := hbl.size; have := G1.size; omega
        by_cases cz : z < 0
        · have hbad : scB l ([z], k) = false := by simp [scB]; omega
          have hx := HR.out
          rw [Scs.hit HT.out hbad] at hx
          simp only [Prod.mk.injEq] at hx
          obtain ⟨rfl, rfl, rfl⟩ := hx
          have d1 : decide (z < 0) = true := by simpa using cz
          have G2 := bt G1 hbl
          clear HS HT hbad
          go_wp2
          go_quiet (fail)
          go_wp2
          exact bodyPost_ret (v := .tuple #[.int .i64 0, .int .i64 0, .int .i64 8]) (by simp [results, Try.results12, go_sem]) rfl ⟨rfl, below_drewN (bal G2 _) _⟩
        · have d1 : decide (z < 0) = false := by simpa using cz
          by_cases cy : (l.length : Int) ≤ z
          · have hbad : scB l ([z], k) = false := by simp [scB]; omega
            have hx := HR.out
            rw [Scs.hit HT.out hbad] at hx
            simp only [Prod.mk.injEq] at hx
            obtain ⟨rfl, rfl, rfl⟩ := hx
            have d2 : decide ((l.length : Int) ≤ z) = true := by simpa using cy
            have G2 := bt G1 hbl
            clear HS HT hbad
            go_wp2
            go_quiet (fail)
            go_wp2
            exact bodyPost_ret (v := .tuple #[.int .i64 0, .int .i64 0, .int .i64 8]) (by simp [results, Try.results12, go_sem]) rfl ⟨rfl, below_drewN (bal G2 _) _⟩
          · have d2 : decide ((l.length : Int) ≤ z) = false := by simpa using cy
            have HS2 : Hid (Scs (rd ts) l (i + 1)) := HS.out.step HT.out (by simp [scB]; omega)
            have HB2 : Hid (Below w1.heap.size w1 wr) := hbl
            clear HS HT
            go_wp2
            go_quiet (fail)
            go_wp2
            go_roundw
            case rel => exact ⟨i + 1, h1, by go_num, HS2, below_drewN (bal HB2.out _) _⟩
            case measure => simp [intOf]; omega
      · have hbad : scB l (xs, k) = false := by simp [scB, cl]
        have hx := HR.out
        rw [Scs.hit HT.out hbad] at hx
        simp only [Prod.mk.injEq] at hx
        obtain ⟨rfl, rfl, rfl⟩ := hx
        have d1 : ((xs.length : Int) == 1) = false := beq_eq_false_iff_ne.2 (by omega)
        have d2 : ((xs.length : Int) != 1) = true := by simp only [bne, d1, Bool.not_false]
        have G2 := bt G1 hbl
        clear HS HT hbad
        go_wp2
        go_quiet (fail)
        go_wp2
        exact bodyPost_ret (v := .tuple #[.int .i64 0, .int .i64 0, .int .i64 8]) (by simp [results, Try.results12, go_sem]) rfl ⟨rfl, below_drewN (bal G2 _) _⟩
    · have hall := HS.out.all (by simp [rd]; omega)
      obtain ⟨⟨m, e1⟩, hm⟩ : ∃ z, scT (rd ts) l = z := ⟨_, rfl⟩
      have hx := HR.out
      unfold scoT at hx
      rw [if_pos hall, hm] at hx
      simp only at hx
      have HX : Hid ((if e1 = 0 then meanT m 0 else (0, 0, e1)) = (x, y, er)) := hx
      have G2 := bt G1 hbl
      have kd := dscore_any B w.heap.size (.slice a ts.length c) (.slice ua l.length uc) ts l wr (by have := G2.size; omega) (by have := hbl.size; omega) ((hbl.cell (p := ⟨w.heap.size, 0, none⟩) klt).trans k0) (HP.out.at hB G2) (HU.out.at hB G2) hall m e1 hm
      clear HS hall hm hx HR
      go_wp2_with fail
      refine kd.mono ?_
      rintro e w3 ⟨v3, us, rfl, h3, o3, b3⟩
      clear kd
      obtain ⟨a3, c3, rfl⟩ := o3.slice
      have G3 := bt G2 b3
      by_cases ce : e1 = 0
      · subst ce
        have hx := HX.out
        rw [if_pos rfl] at hx
        have km := mean_any w3.heap.size (.slice a3 us.length c3) 0 us w3 (Nat.le_refl _) o3.parts x y er (by rw [h3]; exact hx)
        clear hx HX h3 o3
        go_wp2_with fail
        refine km.mono ?_
        rintro e w4 ⟨rfl, b4⟩
        clear km
        have G4 := bt G3 b4
        go_wp2
        exact bodyPost_ret (v := .tuple #[.int .i64 x, .int .i64 y, .int .i64 er]) (by simp [results, Try.results12, go_sem]) rfl ⟨rfl, G4⟩
      · have c1 : (e1 == 0) = false := by simpa using ce
        have c2 : (e1 != 0) = true := by simpa using ce
        have hx := HX.out
        rw [if_neg ce] at hx
        simp only [Prod.mk.injEq] at hx
        obtain ⟨rfl, rfl, rfl⟩ := hx
        clear HX h3 o3
        go_wp2
        exact bodyPost_ret (v := .tuple #[.int .i64 0, .int .i64 0, .int .i64 e1]) (by simp [results, Try.results12, go_sem]) rfl ⟨rfl, G3⟩
end Go.Proofs.Ythmkbkombjhaeaa

namespace Go.Proofs.Ythmkbkombjhaeaa
open Go.RowKit Go.Proofs.Ythmkbkombjhaeaa.Ds

set_option maxHeartbeats 2000000 in
set_option maxRecDepth 100000 in
theorem meanR_any (B : Nat) (v : Value) (place : Int) (ts : List Tr) (w : World) (hB : B ≤ w.heap.size) (hp : Parts w B v ts) (n m er : Int) (hr : meanT (rd ts) place = (n, m, er)) :
    Calls Try.prog 39 #[v, .int .i64 place] w fun e w' => e = .returned (.tuple #[.int .i64 n, .int .i64 m, .int .i64 er]) ∧ Below w.heap.size w w' := by
  have HP : Hid (Parts w B v ts) := hp
  obtain ⟨a, c, rfl, hc, hl, _⟩ := hp
  obtain ⟨⟨l, e1⟩, ho⟩ : ∃ x, ownT (rd ts) = x := ⟨_, rfl⟩
  rw [meanT, ho] at hr
  simp only at hr
  have HR : Hid ((if e1 = 0 then if (rd ts).all (hasP place) then (msum place (rd ts) / (Int.gcd (msum place (rd ts)) (tot (rd ts)) : Nat), tot (rd ts) / (Int.gcd (msum place (rd ts)) (tot (rd ts)) : Nat), 0) else (0, 0, 6) else (0, 0, e1)) = (n, m, er) ∧ ownT (rd ts) = (l, e1)) := ⟨hr, ho⟩
  clear hr ho
  have kc := wrongR_any B _ ts w hB HP.out e1 (by rw [HR.out.2])
  go_enter Try.func39, Try.ntmps39
  go_wp2_with fail
  refine kc.mono ?_
  rintro e w1 ⟨rfl, hb1⟩
  clear kc
  by_cases h0 : e1 = 0
  · subst h0
    obtain ⟨hle, hdis⟩ := ownT_ok HR.out.2
    have HL : Hid (Dis (rd ts)) := hdis
    have h3 := HR.out.1
    rw [if_pos rfl] at h3
    have HM : Hid ((if (rd ts).all (hasP place) then (msum place (rd ts) / (Int.gcd (msum place (rd ts)) (tot (rd ts)) : Nat), tot (rd ts) / (Int.gcd (msum place (rd ts)) (tot (rd ts)) : Nat), 0) else (0, 0, 6)) = (n, m, er)) := h3
    clear hle hdis h3 HR
    go_wp2
    go_loopw [8, 20] (fun s u wr => ∃ (i : Nat) (z : Int), s = .int .i64 z ∧ u = .int .i64 (i : Int) ∧ i ≤ ts.length ∧ msum place ((rd ts).take i) = z ∧ ((rd ts).take i).all (hasP place) = true ∧ Below w.heap.size w wr) (fun _ u _ => ts.length - (intOf u).toNat)
    case atStart => exact ⟨0, 0, rfl, rfl, Nat.zero_le _, by simp [msum], by simp, hb1⟩
    case round =>
      obtain ⟨i, z, rfl, rfl, hit, hz, hall, hbl⟩ := hrel
      have HA : Hid (((rd ts).take i).all (hasP place) = true) := hall
      have hok : (rd ts).all okP = true := HL.out.ok
      have htl : tot (rd ts) ≤ 1073741824 := HL.out.le
      have hnn := (all_okP hok).1
      have hzb : -1152921504606846976 ≤ z ∧ z ≤ 1152921504606846976 := by
        have h1 := msum_bd (place := place) (all_take_true hok i)
        have h2 := hnn.tot_take_le i
        rw [hz] at h1
        omega
      clear hall
      by_cases h1 : i < ts.length
      · obtain ⟨b, o, sa, sc, xs, k, rfl, hb, hs, d1, d2, hI⟩ := HP.out.get hB hbl h1
        have HS : Hid ((rd ts)[i]? = some (xs, k)) := rd_get hs
        have hbs := hbl.size
        by_cases hh : 0 ≤ place ∧ place < (xs.length : Int)
        · obtain ⟨pl, rfl⟩ := Int.eq_ofNat_of_zero_le hh.1
          have hpl : pl < xs.length := by omega
          obtain ⟨ia, ic, hie, _, _, hix⟩ := hI
          simp only [Value.slice.injEq] at hie
          obtain ⟨rfl, _, rfl⟩ := hie
          obtain ⟨sb, so, rfl, hsb, _, hcell⟩ := hix (ne_of_lt hpl)
          obtain ⟨x, hx⟩ := get_lt hpl
          have cx := hcell pl x hx
          have lsb : sb < wr.heap.size := by omega
          have cx2 : ∀ O, (wr.alloc O).cell? ⟨sb, so + pl, none⟩ = some (.int .i64 x) := fun O => by rw [World.cell?_alloc_lt _ _ _ lsb]; exact cx
          have hk0 : 0 ≤ k := hnn (xs, k) (List.mem_of_getElem? HS.out)
          have e1 := msum_take (place := (pl : Int)) HS.out
          have e2 : xs.getD pl 0 = x := by simp [List.getD, hx]
          simp only [Int.toNat_natCast, e2] at e1
          have hxk : -1152921504606846976 ≤ x * k ∧ x * k ≤ 1152921504606846976 := by
            have h2 := mul_le_abs (by have := okP_at (List.all_eq_true.1 hok _ (List.mem_of_getElem? HS.out)) pl; simp only [e2] at this; exact this) hk0
            have h3 := Pos.le_tot hnn (List.mem_of_getElem? HS.out)
            simp only at h3
            omega
          have hzx : -1152921504606846976 ≤ z + x * k ∧ z + x * k ≤ 1152921504606846976 := by
            have h2 := msum_bd (place := (pl : Int)) (all_take_true hok (i + 1))
            have h3 := hnn.tot_take_le (i + 1)
            rw [e1, hz] at h2
            omega
          have HN : Hid (msum (pl : Int) ((rd ts).take (i + 1)) = z + x * k) := by rw [Hid, e1, hz]
          have HA2 : Hid (((rd ts).take (i + 1)).all (hasP (pl : Int)) = true) := by
            rw [Hid, all_take HS.out, HA.out]; simp [hasP]; omega
          have z1 : (0 : Int) ≤ (pl : Int) := by omega
          have z2 : (pl : Int) < (xs.length : Int) := by omega
          obtain ⟨M, hM⟩ : ∃ M, k * x = M := ⟨_, rfl⟩
          rw [Int.mul_comm x k, hM] at hxk hzx HN
          clear hs hix hcell hx e1 e2 hz hh
          have y1 : ¬ (pl : Int) < 0 := by omega
          have y2 : ¬ xs.length ≤ pl := by omega
          go_wp2_with fail
          go_quiet (fail)
          go_wp2
          go_roundw
          case rel => exact ⟨i + 1, z + M, by go_num, by go_num, h1, HN.out, HA2.out, below_drewN (bal hbl _) _⟩
          case measure => simp [intOf]; omega
        · have hf : (rd ts).all (hasP place) = false := all_false HS.out (by unfold hasP; exact decide_eq_false hh)
          have h3 := HM.out
          rw [hf] at h3
          simp only [Bool.false_eq_true, if_false, Prod.mk.injEq] at h3
          obtain ⟨rfl, rfl, rfl⟩ := h3
          clear hf hs hz HM
          by_cases hh2 : place < 0
          · go_wp2
            exact bodyPost_ret (v := .tuple #[.int .i64 0, .int .i64 0, .int .i64 6]) (by simp [results, Try.results39, go_sem]) rfl ⟨rfl, bal hbl _⟩
          · have hh3 : (xs.length : Int) ≤ place := by omega
            clear hh
            go_wp2
            exact bodyPost_ret (v := .tuple #[.int .i64 0, .int .i64 0, .int .i64 6]) (by simp [results, Try.results39, go_sem]) rfl ⟨rfl, bal hbl _⟩
      · have hii : i = ts.length := by omega
        have hA3 : (rd ts).all (hasP place) = true := by have := HA.out; rwa [rd_take_all hii] at this
        have hz3 : msum place (rd ts) = z := by rwa [rd_take_all hii] at hz
        have h3 := HM.out
        rw [hA3, hz3] at h3
        simp only [if_true, Prod.mk.injEq] at h3
        obtain ⟨T, HT⟩ : ∃ T, Hid (tot (rd ts) = T) := ⟨_, rfl⟩
        have hT1 : T ≤ 1073741824 := by rw [← HT.out]; exact HL.out.le
        have hT0 : 0 < T := by rw [← HT.out]; exact tot_pos2 HL.out.pos HL.out.ne
        rw [HT.out] at h3
        obtain ⟨g, hg⟩ : ∃ g, Int.gcd z T = g := ⟨_, rfl⟩
        rw [hg] at h3
        have hg0 : 0 < g := by rw [← hg]; exact Int.gcd_pos_of_ne_zero_right _ (by omega)
        have hdz : (g : Int) ∣ z := by rw [← hg]; exact Int.gcd_dvd_left ..
        have hdT : (g : Int) ∣ T := by rw [← hg]; exact Int.gcd_dvd_right ..
        have hgT : (g : Int) ≤ T := Int.le_of_dvd hT0 hdT
        obtain ⟨h4, h5, rfl⟩ := h3
        have e4 : z.tdiv (g : Int) = n := by rw [← h4]; exact Int.tdiv_eq_ediv_of_dvd hdz
        have e5 : T.tdiv (g : Int) = m := by rw [← h5]; exact Int.tdiv_eq_ediv_of_dvd hdT
        obtain ⟨Z, hZ⟩ : ∃ Z : Nat, z.natAbs = Z := ⟨_, rfl⟩
        obtain ⟨tn, rfl⟩ := Int.eq_ofNat_of_zero_le (Int.le_of_lt hT0)
        have kt := fun W h hP => refTotal_any B (.slice a ts.length c) ts W h hP hnn (by omega) (tn : Int) HT.out
        have hgn : Nat.gcd Z tn = g := by rw [← hg, ← hZ]; rfl
        have kd := fun W => refDivisor_any Z tn (by omega) (by omega) (by omega) W
        rw [hgn] at kd
        have hgz : ((g : Int) == 0) = false := by simp; omega
        have b1 : -1152921504606846976 ≤ n ∧ n ≤ 1152921504606846976 := by
          have h7 := tdiv_abs z (g : Int)
          rw [e4] at h7
          omega
        have b2 : -1152921504606846976 ≤ m ∧ m ≤ 1152921504606846976 := by
          have h7 := tdiv_abs (tn : Int) (g : Int)
          rw [e5] at h7
          omega
        have wn : IntKind.i64.wrap n = n := by rw [IntKind.wrap_i64]; omega
        have wm : IntKind.i64.wrap m = m := by rw [IntKind.wrap_i64]; omega
        have gn0 : ¬ (g : Int) = 0 := by omega
        have gn1 : ¬ g = 0 := by omega
        have hdv1 : ∀ u : World, (binOp .quo 3 (.int .i64 z) (.int .i64 (g : Int))).run Try.prog u = .ok (.int .i64 n) u := fun u => by simp [go_sem, Op.intDiv, gn1, e4, wn]
        have hdv2 : ∀ u : World, (binOp .quo 3 (.int .i64 (tn : Int)) (.int .i64 (g : Int))).run Try.prog u = .ok (.int .i64 m) u := fun u => by simp [go_sem, Op.intDiv, gn1, e5, wm]
        have hs1 := hbl.size
        clear hz hA3 hz3 HM hg hdz hdT hgn
        by_cases hneg : z < 0
        · have hZ2 : -z = (Z : Int) := by omega
          clear hZ
          go_wp2_with fail
          refine (kt _ (by omega) (HP.out.at hB hbl)).mono ?_
          rintro e w2 ⟨rfl, hb2⟩
          go_wp2_with fail
          refine (kd _).mono ?_
          rintro e w3 ⟨rfl, rfl⟩
          clear kd
          go_wp2_with fail
          go_region_held3 (fun w' => Below w3.heap.size w3 w')
            (first | (exact (Below.refl _ _).drew) | (exact bt (Below.refl _ _).drew hb5))
            ((go_at_call 55; refine (kt _ ?_ ?_).mono ?_; (show B ≤ w3.heap.size; have := hb2.size; omega); (exact HP.out.at hB (bt hbl hb2).drew); rintro x5 w5 ⟨rfl, hb5⟩))
          rename_i hHeld
          go_wp2
          exact bodyPost_ret (v := .tuple #[.int .i64 n, .int .i64 m, .int .i64 0]) (by simp [results, Try.results39, go_sem]) rfl ⟨rfl, bt (bt hbl hb2) hHeld⟩
        · have hZ2 : z = (Z : Int) := by omega
          subst hZ2
          clear hZ
          go_wp2_with fail
          refine (kt _ (by omega) (HP.out.at hB hbl)).mono ?_
          rintro e w2 ⟨rfl, hb2⟩
          go_wp2_with fail
          refine (kd _).mono ?_
          rintro e w3 ⟨rfl, rfl⟩
          clear kd
          go_wp2_with fail
          go_region_held3 (fun w' => Below w3.heap.size w3 w')
            (first | (exact (Below.refl _ _).drew) | (exact bt (Below.refl _ _).drew hb5))
            ((go_at_call 55; refine (kt _ ?_ ?_).mono ?_; (show B ≤ w3.heap.size; have := hb2.size; omega); (exact HP.out.at hB (bt hbl hb2).drew); rintro x5 w5 ⟨rfl, hb5⟩))
          rename_i hHeld
          go_wp2
          exact bodyPost_ret (v := .tuple #[.int .i64 n, .int .i64 m, .int .i64 0]) (by simp [results, Try.results39, go_sem]) rfl ⟨rfl, bt (bt hbl hb2) hHeld⟩
  · have h3 := HR.out.1
    rw [if_neg h0] at h3
    simp only [Prod.mk.injEq] at h3
    obtain ⟨rfl, rfl, rfl⟩ := h3
    have h0' : (e1 == 0) = false := by simpa using h0
    have h0'' : (e1 != 0) = true := by simpa using h0
    go_wp2
    exact bodyPost_ret (v := .tuple #[.int .i64 0, .int .i64 0, .int .i64 e1]) (by simp [results, Try.results39, go_sem]) rfl ⟨rfl, hb1⟩
end Go.Proofs.Ythmkbkombjhaeaa
