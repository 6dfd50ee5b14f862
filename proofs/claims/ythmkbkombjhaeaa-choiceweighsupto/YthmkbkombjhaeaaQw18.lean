import Derived.Test.YthmkbkombjhaeaaQw17
namespace Go.Proofs.Ythmkbkombjhaeaa
open Go.RowKit Go.Proofs.Ythmkbkombjhaeaa.Ds

/-- has it a number there -/
def hasP (place : Int) (p : Pt) : Bool := decide (0 ≤ place ∧ place < (p.1.length : Int))
/-- all numbers there, each times its weight -/
def msum (place : Int) : List Pt → Int
  | [] => 0
  | p :: l => p.1.getD place.toNat 0 * p.2 + msum place l

theorem msum_append (place : Int) (l k : List Pt) : msum place (l ++ k) = msum place l + msum place k := by
  induction l with
  | nil => simp [msum]
  | cons p l ih => simp only [List.cons_append, msum, ih]; omega
theorem msum_take {place : Int} {l : List Pt} {i : Nat} {p : Pt} (h : l[i]? = some p) : msum place (l.take (i + 1)) = msum place (l.take i) + p.1.getD place.toNat 0 * p.2 := by
  rw [List.take_add_one, h, msum_append]; simp [msum]

theorem okN_bd {n : Int} (h : okN n = true) : -1073741824 ≤ n ∧ n ≤ 1073741824 := by
  unfold okN at h; exact of_decide_eq_true h

theorem okP_at {p : Pt} (h : okP p = true) (i : Nat) : -1073741824 ≤ p.1.getD i 0 ∧ p.1.getD i 0 ≤ 1073741824 := by
  have h2 : ∀ x ∈ p.1, okN x = true := by
    unfold okP okO at h
    simp only [Bool.and_eq_true, List.all_eq_true] at h
    exact h.2.2
  rw [List.getD_eq_getElem?_getD]
  cases hx : p.1[i]? with
  | none => simp
  | some x => exact okN_bd (h2 x (List.mem_of_getElem? hx))

theorem mul_le_abs {x k : Int} (h : -1073741824 ≤ x ∧ x ≤ 1073741824) (hk : 0 ≤ k) : -1073741824 * k ≤ x * k ∧ x * k ≤ 1073741824 * k :=
  ⟨Int.mul_le_mul_of_nonneg_right h.1 hk, Int.mul_le_mul_of_nonneg_right h.2 hk⟩

theorem msum_bd {place : Int} {l : List Pt} (ho : l.all okP = true) : -1073741824 * tot l ≤ msum place l ∧ msum place l ≤ 1073741824 * tot l := by
  induction l with
  | nil => simp [msum]
  | cons p l ih =>
    simp only [List.all_cons, Bool.and_eq_true] at ho
    have h1 := ih ho.2
    have hk : 0 ≤ p.2 := (all_okP (l := [p]) (by simp [ho.1])).1 p (by simp)
    have h2 := mul_le_abs (okP_at ho.1 place.toNat) hk
    simp only [msum, tot_cons]
    omega

theorem all_take_true {α : Type} {l : List α} {f : α → Bool} (h : l.all f = true) (i : Nat) : (l.take i).all f = true := by
  rw [List.all_eq_true] at *
  exact fun x hx => h x (List.mem_of_mem_take hx)

theorem tdiv_abs (a b : Int) : (a.tdiv b).natAbs ≤ a.natAbs := by
  rw [Int.natAbs_tdiv]; exact Nat.div_le_self _ _

/-- Mean -/
def meanT (l : List Pt) (place : Int) : Int × Int × Int :=
  if (ownT l).2 = 0 then if l.all (hasP place) then (msum place l / (Int.gcd (msum place l) (tot l) : Nat), tot l / (Int.gcd (msum place l) (tot l) : Nat), 0) else (0, 0, 6) else (0, 0, (ownT l).2)

set_option maxHeartbeats 2000000 in
set_option maxRecDepth 100000 in
theorem mean_any (B : Nat) (v : Value) (place : Int) (ts : List Tr) (w : World) (hB : B ≤ w.heap.size) (hp : Parts w B v ts) (n m er : Int) (hr : meanT (rd ts) place = (n, m, er)) :
    Calls Try.prog 36 #[v, .int .i64 place] w fun e w' => e = .returned (.tuple #[.int .i64 n, .int .i64 m, .int .i64 er]) ∧ Below w.heap.size w w' := by
  have HP : Hid (Parts w B v ts) := hp
  obtain ⟨a, c, rfl, hc, hl, _⟩ := hp
  obtain ⟨⟨l, e1⟩, ho⟩ : ∃ x, ownT (rd ts) = x := ⟨_, rfl⟩
  rw [meanT, ho] at hr
  simp only at hr
  have HR : Hid ((if e1 = 0 then if (rd ts).all (hasP place) then (msum place (rd ts) / (Int.gcd (msum place (rd ts)) (tot (rd ts)) : Nat), tot (rd ts) / (Int.gcd (msum place (rd ts)) (tot (rd ts)) : Nat), 0) else (0, 0, 6) else (0, 0, e1)) = (n, m, er) ∧ ownT (rd ts) = (l, e1)) := ⟨hr, ho⟩
  clear hr ho
  have kc := own_any B _ ts w hB HP.out l e1 HR.out.2
  go_enter Try.func36, Try.ntmps36
  go_wp2_with fail
  refine kc.mono ?_
  rintro e w1 ⟨v1, us, rfl, hrd, ho, hb1⟩
  have HO : Hid (OwnN w1 w.heap.size v1 us) := ho
  have HD : Hid (rd us = l) := hrd
  obtain ⟨a1, c1, rfl⟩ := ho.slice
  clear ho hrd kc
  by_cases h0 : e1 = 0
  · subst h0
    obtain ⟨hle, hdis⟩ := ownT_ok HR.out.2
    have HL : Hid (rd us = rd ts ∧ Dis (rd ts)) := ⟨HD.out.trans hle, hdis⟩
    have h3 := HR.out.1
    rw [if_pos rfl] at h3
    have HM : Hid ((if (rd ts).all (hasP place) then (msum place (rd ts) / (Int.gcd (msum place (rd ts)) (tot (rd ts)) : Nat), tot (rd ts) / (Int.gcd (msum place (rd ts)) (tot (rd ts)) : Nat), 0) else (0, 0, 6)) = (n, m, er)) := h3
    have hul : us.length ≤ 1073741824 := by have := hdis.few; rw [← HL.out.1, rd_len] at this; omega
    have HP1 : Hid (Parts w1 w1.heap.size (.slice a1 us.length c1) us) := HO.out.parts
    clear hle hdis h3 HR HD
    go_wp2
    go_loopw [4, 20] (fun s u wr => ∃ (i : Nat) (z : Int), s = .int .i64 z ∧ u = .int .i64 (i : Int) ∧ i ≤ us.length ∧ msum place ((rd us).take i) = z ∧ ((rd us).take i).all (hasP place) = true ∧ Below w1.heap.size w1 wr) (fun _ u _ => us.length - (intOf u).toNat)
    case atStart => exact ⟨0, 0, rfl, rfl, Nat.zero_le _, by simp [msum], by simp, Below.refl _ _⟩
    case round =>
      obtain ⟨i, z, rfl, rfl, hit, hz, hall, hbl⟩ := hrel
      have HA : Hid (((rd us).take i).all (hasP place) = true) := hall
      have hok : (rd us).all okP = true := by rw [HL.out.1]; exact HL.out.2.ok
      have htl : tot (rd us) ≤ 1073741824 := by rw [HL.out.1]; exact HL.out.2.le
      have hnn := (all_okP hok).1
      have hzb : -1152921504606846976 ≤ z ∧ z ≤ 1152921504606846976 := by
        have h1 := msum_bd (place := place) (all_take_true hok i)
        have h2 := hnn.tot_take_le i
        rw [hz] at h1
        omega
      clear hall
      by_cases h1 : i < us.length
      · obtain ⟨b, o, sa, sc, xs, k, rfl, hb, hs, d1, d2, hI⟩ := HP1.out.get (Nat.le_refl _) hbl h1
        have HS : Hid ((rd us)[i]? = some (xs, k)) := rd_get hs
        have hbs := hbl.size
        by_cases hh : 0 ≤ place ∧ place < (xs.length : Int)
        · obtain ⟨pl, rfl⟩ := Int.eq_ofNat_of_zero_le hh.1
          have hpl : pl < xs.length := by omega
          obtain ⟨ia, ic, hie, _, _, hix⟩ := hI
          simp only [Value.slice.injEq] at hie
          obtain ⟨rfl, _, rfl⟩ := hie
          obtain ⟨sb, so, rfl, hsb, _, hcell⟩ := hix (ne_of_lt hpl)
          obtain ⟨x, hx⟩ := get_lt hpl
          have cx := hcell pl x hx
          have lsb : sb < wr.heap.size := by omega
          have cx2 : ∀ O, (wr.alloc O).cell? ⟨sb, so + pl, none⟩ = some (.int .i64 x) := fun O => by rw [World.cell?_alloc_lt _ _ _ lsb]; exact cx
          have hk0 : 0 ≤ k := hnn (xs, k) (List.mem_of_getElem? HS.out)
          have e1 := msum_take (place := (pl : Int)) HS.out
          have e2 : xs.getD pl 0 = x := by simp [List.getD, hx]
          simp only [Int.toNat_natCast, e2] at e1
          have hxk : -1152921504606846976 ≤ x * k ∧ x * k ≤ 1152921504606846976 := by
            have h2 := mul_le_abs (by have := okP_at (List.all_eq_true.1 hok _ (List.mem_of_getElem? HS.out)) pl; simp only [e2] at this; exact this) hk0
            have h3 := Pos.le_tot hnn (List.mem_of_getElem? HS.out)
            simp only at h3
            omega
          have hzx : -1152921504606846976 ≤ z + x * k ∧ z + x * k ≤ 1152921504606846976 := by
            have h2 := msum_bd (place := (pl : Int)) (all_take_true hok (i + 1))
            have h3 := hnn.tot_take_le (i + 1)
            rw [e1, hz] at h2
            omega
          have HN : Hid (msum (pl : Int) ((rd us).take (i + 1)) = z + x * k) := by rw [Hid, e1, hz]
          have HA2 : Hid (((rd us).take (i + 1)).all (hasP (pl : Int)) = true) := by
            rw [Hid, all_take HS.out, HA.out]; simp [hasP]; omega
          have z1 : (0 : Int) ≤ (pl : Int) := by omega
          have z2 : (pl : Int) < (xs.length : Int) := by omega
          obtain ⟨M, hM⟩ : ∃ M, x * k = M := ⟨_, rfl⟩
          rw [hM] at hxk hzx HN
          clear hs hix hcell hx e1 e2 hz hh
          have y1 : ¬ (pl : Int) < 0 := by omega
          have y2 : ¬ xs.length ≤ pl := by omega
          go_wp2_with fail
          go_quiet (fail)
          go_wp2
          go_roundw
          case rel => exact ⟨i + 1, z + M, by go_num, by go_num, h1, HN.out, HA2.out, below_drewN (bal hbl _) _⟩
          case measure => simp [intOf]; omega
        · have hf : (rd ts).all (hasP place) = false := by
            rw [← HL.out.1]
            exact all_false HS.out (by unfold hasP; exact decide_eq_false hh)
          have h3 := HM.out
          rw [hf] at h3
          simp only [Bool.false_eq_true, if_false, Prod.mk.injEq] at h3
          obtain ⟨rfl, rfl, rfl⟩ := h3
          clear hf hs hz HM
          by_cases hh2 : place < 0
          · go_wp2
            exact bodyPost_ret (v := .tuple #[.int .i64 0, .int .i64 0, .int .i64 6]) (by simp [results, Try.results36, go_sem]) rfl ⟨rfl, bt hb1 (bal hbl _)⟩
          · have hh3 : (xs.length : Int) ≤ place := by omega
            clear hh
            go_wp2
            exact bodyPost_ret (v := .tuple #[.int .i64 0, .int .i64 0, .int .i64 6]) (by simp [results, Try.results36, go_sem]) rfl ⟨rfl, bt hb1 (bal hbl _)⟩
      · have hii : i = us.length := by omega
        have hA3 : (rd ts).all (hasP place) = true := by rw [← HL.out.1]; have := HA.out; rwa [rd_take_all hii] at this
        have hz3 : msum place (rd ts) = z := by rw [← HL.out.1]; rwa [rd_take_all hii] at hz
        have h3 := HM.out
        rw [hA3, hz3] at h3
        simp only [if_true, Prod.mk.injEq] at h3
        obtain ⟨T, HT⟩ : ∃ T, Hid (tot (rd ts) = T) := ⟨_, rfl⟩
        have hT1 : T ≤ 1073741824 := by rw [← HT.out]; exact HL.out.2.le
        have hT0 : 0 < T := by rw [← HT.out]; exact tot_pos2 HL.out.2.pos HL.out.2.ne
        rw [HT.out] at h3
        obtain ⟨g, hg⟩ : ∃ g, Int.gcd z T = g := ⟨_, rfl⟩
        rw [hg] at h3
        have hg0 : 0 < g := by rw [← hg]; exact Int.gcd_pos_of_ne_zero_right _ (by omega)
        have hdz : (g : Int) ∣ z := by rw [← hg]; exact Int.gcd_dvd_left ..
        have hdT : (g : Int) ∣ T := by rw [← hg]; exact Int.gcd_dvd_right ..
        have hgT : (g : Int) ≤ T := Int.le_of_dvd hT0 hdT
        obtain ⟨h4, h5, rfl⟩ := h3
        have e4 : z.tdiv (g : Int) = n := by rw [← h4]; exact Int.tdiv_eq_ediv_of_dvd hdz
        have e5 : T.tdiv (g : Int) = m := by rw [← h5]; exact Int.tdiv_eq_ediv_of_dvd hdT
        have kt := total_any wr.heap.size (.slice a1 us.length c1) us wr (Nat.le_refl _) ((HP1.out.at (Nat.le_refl _) hbl).mono hbl.size) hnn (by omega) T (by rw [HL.out.1]; exact HT.out)
        have kd := fun W => divisor_int z T (by omega) (by omega) (by omega) (by omega) W
        rw [hg] at kd
        have hgz : ((g : Int) == 0) = false := by simp; omega
        have b1 : -1152921504606846976 ≤ n ∧ n ≤ 1152921504606846976 := by
          have h7 := tdiv_abs z (g : Int)
          rw [e4] at h7
          omega
        have b2 : -1152921504606846976 ≤ m ∧ m ≤ 1152921504606846976 := by
          have h7 := tdiv_abs T (g : Int)
          rw [e5] at h7
          omega
        clear hz hA3 hz3 HM hg hdz hdT h4 h5
        go_wp2_with fail
        refine kt.mono ?_
        rintro e w2 ⟨rfl, hb2⟩
        go_wp2_with fail
        refine (kd _).mono ?_
        rintro e w3 ⟨rfl, hb3⟩
        clear kt kd
        go_wp2_with fail
        go_quiet (fail)
        go_wp2
        exact bodyPost_ret (v := .tuple #[.int .i64 n, .int .i64 m, .int .i64 0]) (by simp [results, Try.results36, go_sem]) rfl ⟨rfl, below_drewN (bt (bt (bt hb1 hbl) hb2) hb3) _⟩
  · have h3 := HR.out.1
    rw [if_neg h0] at h3
    simp only [Prod.mk.injEq] at h3
    obtain ⟨rfl, rfl, rfl⟩ := h3
    have h0' : (e1 == 0) = false := by simpa using h0
    have h0'' : (e1 != 0) = true := by simpa using h0
    go_wp2
    exact bodyPost_ret (v := .tuple #[.int .i64 0, .int .i64 0, .int .i64 e1]) (by simp [results, Try.results36, go_sem]) rfl ⟨rfl, hb1⟩
end Go.Proofs.Ythmkbkombjhaeaa
