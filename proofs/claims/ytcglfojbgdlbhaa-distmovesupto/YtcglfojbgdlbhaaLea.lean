import Derived.Test.YtcglfojbgdlbhaaCha
namespace Go.Proofs.Ytcglfojbgdlbhaa
open Go.RowKit Go.Proofs.Ytcglfojbgdlbhaa.Ds

/-- has it a number there -/
def hasP (place : Int) (p : Pt) : Bool := decide (0 ≤ place ∧ place < (p.1.length : Int))
/-- all numbers there, each times its weight -/
def msum (place : Int) : List Pt → Int
  | [] => 0
  | p :: l => p.1.getD place.toNat 0 * p.2 + msum place l

theorem msum_append (place : Int) (l k : List Pt) : msum place (l ++ k) = msum place l + msum place k := by
  induction l with
  | nil => simp [msum]
  | cons p l ih => simp only [List.cons_append, msum, ih]; omega
theorem msum_take {place : Int} {l : List Pt} {i : Nat} {p : Pt} (h : l[i]? = some p) : msum place (l.take (i + 1)) = msum place (l.take i) + p.1.getD place.toNat 0 * p.2 := by
  rw [List.take_add_one, h, msum_append]; simp [msum]

theorem okN_bd {n : Int} (h : okN n = true) : -1073741824 ≤ n ∧ n ≤ 1073741824 := by
  unfold okN at h; exact of_decide_eq_true h

theorem okP_at {p : Pt} (h : okP p = true) (i : Nat) : -1073741824 ≤ p.1.getD i 0 ∧ p.1.getD i 0 ≤ 1073741824 := by
  have h2 : ∀ x ∈ p.1, okN x = true := by
    unfold okP okO at h
    simp only [Bool.and_eq_true, List.all_eq_true] at h
    exact h.2.2
  rw [List.getD_eq_getElem?_getD]
  cases hx : p.1[i]? with
  | none => simp
  | some x => exact okN_bd (h2 x (List.mem_of_getElem? hx))

theorem mul_le_abs {x k : Int} (h : -1073741824 ≤ x ∧ x ≤ 1073741824) (hk : 0 ≤ k) : -1073741824 * k ≤ x * k ∧ x * k ≤ 1073741824 * k :=
  ⟨Int.mul_le_mul_of_nonneg_right h.1 hk, Int.mul_le_mul_of_nonneg_right h.2 hk⟩

theorem msum_bd {place : Int} {l : List Pt} (ho : l.all okP = true) : -1073741824 * tot l ≤ msum place l ∧ msum place l ≤ 1073741824 * tot l := by
  induction l with
  | nil => simp [msum]
  | cons p l ih =>
    simp only [List.all_cons, Bool.and_eq_true] at ho
    have h1 := ih ho.2
    have hk : 0 ≤ p.2 := (all_okP (l := [p]) (by simp [ho.1])).1 p (by simp)
    have h2 := mul_le_abs (okP_at ho.1 place.toNat) hk
    simp only [msum, tot_cons]
    omega

theorem all_take_true {α : Type} {l : List α} {f : α → Bool} (h : l.all f = true) (i : Nat) : (l.take i).all f = true := by
  rw [List.all_eq_true] at *
  exact fun x hx => h x (List.mem_of_mem_take hx)

theorem tdiv_abs (a b : Int) : (a.tdiv b).natAbs ≤ a.natAbs := by
  rw [Int.natAbs_tdiv]; exact Nat.div_le_self _ _

/-- Mean -/
def meanT (l : List Pt) (place : Int) : Int × Int × Int :=
  if (ownT l).2 = 0 then if l.all (hasP place) then (msum place l / (Int.gcd (msum place l) (tot l) : Nat), tot l / (Int.gcd (msum place l) (tot l) : Nat), 0) else (0, 0, 6) else (0, 0, (ownT l).2)

set_option maxHeartbeats 2000000 in
set_option maxRecDepth 100000 in
theorem mean_any (B : Nat) (v : Value) (place : Int) (ts : List Tr) (w : World) (hB : B ≤ w.heap.size) (hp : Parts w B v ts) (n m er : Int) (hr : meanT (rd ts) place = (n, m, er)) :
    Calls Try.prog 17 #[v, .int .i64 place] w fun e w' => e = .returned (.tuple #[.int .i64 n, .int .i64 m, .int .i64 er]) ∧ Below w.heap.size w w' := by
  have HP : Hid (Parts w B v ts) := hp
  obtain ⟨a, c, rfl, hc, hl, _⟩ := hp
  obtain ⟨⟨l, e1⟩, ho⟩ : ∃ x, ownT (rd ts) = x := ⟨_, rfl⟩
  rw [meanT, ho] at hr
  simp only at hr
  have HR : Hid ((if e1 = 0 then if (rd ts).all (hasP place) then (msum place (rd ts) / (Int.gcd (msum place (rd ts)) (tot (rd ts)) : Nat), tot (rd ts) / (Int.gcd (msum place (rd ts)) (tot (rd ts)) : Nat), 0) else (0, 0, 6) else (0, 0, e1)) = (n, m, er) ∧ ownT (rd ts) = (l, e1)) := ⟨hr, ho⟩
  clear hr ho
  have kc := own_any B _ ts w hB HP.out l e1 HR.out.2
  go_enter Try.func17, Try.ntmps17
  go_wp2_with fail
  refine kc.mono ?_
  rintro e w1 ⟨v1, us, rfl, hrd, ho, hb1⟩
  have HO : Hid (OwnN w1 w.heap.size v1 us) := ho
  have HD : Hid (rd us = l) := hrd
  obtain ⟨a1, c1, rfl⟩ := ho.slice
  clear ho hrd kc
  by_cases h0 : e1 = 0
  · subst h0
    obtain ⟨hle, hdis⟩ := ownT_ok HR.out.2
    have HL : Hid (rd us = rd ts ∧ Dis (rd ts)) := ⟨HD.out.trans hle, hdis⟩
    have h3 := HR.out.1
    rw [if_pos rfl] at h3
    have HM : Hid ((if (rd ts).all (hasP place) then (msum place (rd ts) / (Int.gcd (msum place (rd ts)) (tot (rd ts)) : Nat), tot (rd ts) / (Int.gcd (msum place (rd ts)) (tot (rd ts)) : Nat), 0) else (0, 0, 6)) = (n, m, er)) := h3
    have hul : us.length ≤ 1073741824 := by have := hdis.few; rw [← HL.out.1, rd_len] at this; omega
    have HP1 : Hid (Parts w1 w1.heap.size (.slice a1 us.length c1) us) := HO.out.parts
    clear hle hdis h3 HR HD
    go_wp2
    go_loopw [4, 20] (fun s u wr => ∃ (i : Nat) (z : Int), s = .int .i64 z ∧ u = .int .i64 (i : Int) ∧ i ≤ us.length ∧ msum place ((rd us).take i) = z ∧ ((rd us).take i).all (hasP place) = true ∧ Below w1.heap.size w1 wr) (fun _ u _ => us.length - (intOf u).toNat)
    case atStart => exact ⟨0, 0, rfl, rfl, Nat.zero_le _, by simp [msum], by simp, Below.refl _ _⟩
    case round =>
      obtain ⟨i, z, rfl, rfl, hit, hz, hall, hbl⟩ := hrel
      have HA : Hid (((rd us).take i).all (hasP place) = true) := hall
      have hok : (rd us).all okP = true := by rw [HL.out.1]; exact HL.out.2.ok
      have htl : tot (rd us) ≤ 1073741824 := by rw [HL.out.1]; exact HL.out.2.le
      have hnn := (all_okP hok).1
      have hzb : -1152921504606846976 ≤ z ∧ z ≤ 1152921504606846976 := by
        have h1 := msum_bd (place := place) (all_take_true hok i)
        have h2 := hnn.tot_take_le i
        rw [hz] at h1
        omega
      clear hall
      by_cases h1 : i < us.length
      · obtain ⟨b, o, sa, sc, xs, k, rfl, hb, hs, d1, d2, hI⟩ := HP1.out.get (Nat.le_refl _) hbl h1
        have HS : Hid ((rd us)[i]? = some (xs, k)) := rd_get hs
        have hbs := hbl.size
        by_cases hh : 0 ≤ place ∧ place < (xs.length : Int)
        · obtain ⟨pl, rfl⟩ := Int.eq_ofNat_of_zero_le hh.1
          have hpl : pl < xs.length := by omega
          obtain ⟨ia, ic, hie, _, _, hix⟩ := hI
          simp only [Value.slice.injEq] at hie
          obtain ⟨rfl, _, rfl⟩ := hie
          obtain ⟨sb, so, rfl, hsb, _, hcell⟩ := hix (ne_of_lt hpl)
          obtain ⟨x, hx⟩ := get_lt hpl
          have cx := hcell pl x hx
          have lsb : sb < wr.heap.size := by omega
          have cx2 : ∀ O, (wr.alloc O).cell? ⟨sb, so + pl, none⟩ = some (.int .i64 x) := fun O => by rw [World.cell?_alloc_lt _ _ _ lsb]; exact cx
          have hk0 : 0 ≤ k := hnn (xs, k) (List.mem_of_getElem? HS.out)
          have e1 := msum_take (place := (pl : Int)) HS.out
          have e2 : xs.getD pl 0 = x := by simp [List.getD, hx]
          simp only [Int.toNat_natCast, e2] at e1
          have hxk : -1152921504606846976 ≤ x * k ∧ x * k ≤ 1152921504606846976 := by
            have h2 := mul_le_abs (by have := okP_at (List.all_eq_true.1 hok _ (List.mem_of_getElem? HS.out)) pl; simp only [e2] at this; exact this) hk0
            have h3 := Pos.le_tot hnn (List.mem_of_getElem? HS.out)
            simp only at h3
            omega
          have hzx : -1152921504606846976 ≤ z + x * k ∧ z + x * k ≤ 1152921504606846976 := by
            have h2 := msum_bd (place := (pl : Int)) (all_take_true hok (i + 1))
            have h3 := hnn.tot_take_le (i + 1)
            rw [e1, hz] at h2
            omega
          have HN : Hid (msum (pl : Int) ((rd us).take (i + 1)) = z + x * k) := by rw [Hid, e1, hz]
          have HA2 : Hid (((rd us).take (i + 1)).all (hasP (pl : Int)) = true) := by
            rw [Hid, all_take HS.out, HA.out]; simp [hasP]; omega
          have z1 : (0 : Int) ≤ (pl : Int) := by omega
          have z2 : (pl : Int) < (xs.length : Int) := by omega
          obtain ⟨M, hM⟩ : ∃ M, x * k = M := ⟨_, rfl⟩
          rw [hM] at hxk hzx HN
          clear hs hix hcell hx e1 e2 hz hh
          have y1 : ¬ (pl : Int) < 0 := by omega
          have y2 : ¬ xs.length ≤ pl := by omega
          go_wp2_with fail
          go_quiet (fail)
          go_wp2
          go_roundw
          case rel => exact ⟨i + 1, z + M, by go_num, by go_num, h1, HN.out, HA2.out, below_drewN (bal hbl _) _⟩
          case measure => simp [intOf]; omega
        · have hf : (rd ts).all (hasP place) = false := by
            rw [← HL.out.1]
            exact all_false HS.out (by unfold hasP; exact decide_eq_false hh)
          have h3 := HM.out
          rw [hf] at h3
          simp only [Bool.false_eq_true, if_false, Prod.mk.injEq] at h3
          obtain ⟨rfl, rfl, rfl⟩ := h3
          clear hf hs hz HM
          by_cases hh2 : place < 0
          · go_wp2
            exact bodyPost_ret (v := .tuple #[.int .i64 0, .int .i64 0, .int .i64 6]) (by simp [results, Try.results17, go_sem]) rfl ⟨rfl, bt hb1 (bal hbl _)⟩
          · have hh3 : (xs.length : Int) ≤ place := by omega
            clear hh
            go_wp2
            exact bodyPost_ret (v := .tuple #[.int .i64 0, .int .i64 0, .int .i64 6]) (by simp [results, Try.results17, go_sem]) rfl ⟨rfl, bt hb1 (bal hbl _)⟩
      · have hii : i = us.length := by omega
        have hA3 : (rd ts).all (hasP place) = true := by rw [← HL.out.1]; have := HA.out; rwa [rd_take_all hii] at this
        have hz3 : msum place (rd ts) = z := by rw [← HL.out.1]; rwa [rd_take_all hii] at hz
        have h3 := HM.out
        rw [hA3, hz3] at h3
        simp only [if_true, Prod.mk.injEq] at h3
        obtain ⟨T, HT⟩ : ∃ T, Hid (tot (rd ts) = T) := ⟨_, rfl⟩
        have hT1 : T ≤ 1073741824 := by rw [← HT.out]; exact HL.out.2.le
        have hT0 : 0 < T := by rw [← HT.out]; exact tot_pos2 HL.out.2.pos HL.out.2.ne
        rw [HT.out] at h3
        obtain ⟨g, hg⟩ : ∃ g, Int.gcd z T = g := ⟨_, rfl⟩
        rw [hg] at h3
        have hg0 : 0 < g := by rw [← hg]; exact Int.gcd_pos_of_ne_zero_right _ (by omega)
        have hdz : (g : Int) ∣ z := by rw [← hg]; exact Int.gcd_dvd_left ..
        have hdT : (g : Int) ∣ T := by rw [← hg]; exact Int.gcd_dvd_right ..
        have hgT : (g : Int) ≤ T := Int.le_of_dvd hT0 hdT
        obtain ⟨h4, h5, rfl⟩ := h3
        have e4 : z.tdiv (g : Int) = n := by rw [← h4]; exact Int.tdiv_eq_ediv_of_dvd hdz
        have e5 : T.tdiv (g : Int) = m := by rw [← h5]; exact Int.tdiv_eq_ediv_of_dvd hdT
        have kt := total_any wr.heap.size (.slice a1 us.length c1) us wr (Nat.le_refl _) ((HP1.out.at (Nat.le_refl _) hbl).mono hbl.size) hnn (by omega) T (by rw [HL.out.1]; exact HT.out)
        have kd := fun W => divisor_int z T (by omega) (by omega) (by omega) (by omega) W
        rw [hg] at kd
        have hgz : ((g : Int) == 0) = false := by simp; omega
        have b1 : -1152921504606846976 ≤ n ∧ n ≤ 1152921504606846976 := by
          have h7 := tdiv_abs z (g : Int)
          rw [e4] at h7
          omega
        have b2 : -1152921504606846976 ≤ m ∧ m ≤ 1152921504606846976 := by
          have h7 := tdiv_abs T (g : Int)
          rw [e5] at h7
          omega
        clear hz hA3 hz3 HM hg hdz hdT h4 h5
        go_wp2_with fail
        refine kt.mono ?_
        rintro e w2 ⟨rfl, hb2⟩
        go_wp2_with fail
        refine (kd _).mono ?_
        rintro e w3 ⟨rfl, hb3⟩
        clear kt kd
        go_wp2_with fail
        go_quiet (fail)
        go_wp2
        exact bodyPost_ret (v := .tuple #[.int .i64 n, .int .i64 m, .int .i64 0]) (by simp [results, Try.results17, go_sem]) rfl ⟨rfl, below_drewN (bt (bt (bt hb1 hbl) hb2) hb3) _⟩
  · have h3 := HR.out.1
    rw [if_neg h0] at h3
    simp only [Prod.mk.injEq] at h3
    obtain ⟨rfl, rfl, rfl⟩ := h3
    have h0' : (e1 == 0) = false := by simpa using h0
    have h0'' : (e1 != 0) = true := by simpa using h0
    go_wp2
    exact bodyPost_ret (v := .tuple #[.int .i64 0, .int .i64 0, .int .i64 e1]) (by simp [results, Try.results17, go_sem]) rfl ⟨rfl, hb1⟩
end Go.Proofs.Ytcglfojbgdlbhaa

namespace Go.Proofs.Ytcglfojbgdlbhaa
open Go.RowKit Go.Proofs.Ytcglfojbgdlbhaa.Ds

/-- what 'least' looks for -/
def Cand (bd : Bool) (ab : List Int) (t : Tr) : Prop := 0 < t.2.2 ∧ (bd = true → ltL ab t.2.1)

/-- what 'least' has found among some -/
def Found (bd : Bool) (ab : List Int) (l : List Tr) (v : Value) (f : Bool) : Prop :=
  (f = false ∧ v = .slice none 0 0 ∧ ∀ t ∈ l, ¬ Cand bd ab t) ∨ (f = true ∧ ∃ t ∈ l, v = t.1 ∧ Cand bd ab t ∧ ∀ u ∈ l, Cand bd ab u → ¬ ltL u.2.1 t.2.1)

theorem mem_snoc {α : Type} {l : List α} {x y : α} : y ∈ l ++ [x] ↔ y ∈ l ∨ y = x := by simp

theorem Found.skip {bd : Bool} {ab : List Int} {l : List Tr} {v : Value} {f : Bool} {t : Tr} (h : Found bd ab l v f) (ht : ¬ Cand bd ab t) : Found bd ab (l ++ [t]) v f := by
  rcases h with ⟨h1, h2, h3⟩ | ⟨h1, s, hs, h2, h3, h4⟩
  · exact .inl ⟨h1, h2, fun u hu => by rcases mem_snoc.1 hu with hu | rfl; · exact h3 u hu
                                       · exact ht⟩
  · exact .inr ⟨h1, s, by simp [hs], h2, h3, fun u hu hc => by rcases mem_snoc.1 hu with hu | rfl; · exact h4 u hu hc
                                                               · exact absurd hc ht⟩

theorem Found.first {bd : Bool} {ab : List Int} {l : List Tr} {v : Value} {t : Tr} (h : Found bd ab l v false) (ht : Cand bd ab t) : Found bd ab (l ++ [t]) t.1 true := by
  rcases h with ⟨_, _, h3⟩ | ⟨h1, _⟩
  · exact .inr ⟨rfl, t, by simp, rfl, ht, fun u hu hc => by
      rcases mem_snoc.1 hu with hu | rfl
      · exact absurd hc (h3 u hu)
      · exact ltL_irrefl _⟩
  · cases h1

/-- the one that is held -/
theorem Found.held {bd : Bool} {ab : List Int} {l : List Tr} {v : Value} (h : Found bd ab l v true) : ∃ s ∈ l, v = s.1 ∧ Cand bd ab s ∧ ∀ u ∈ l, Cand bd ab u → ¬ ltL u.2.1 s.2.1 := by
  rcases h with ⟨h1, _⟩ | ⟨_, h⟩
  · cases h1
  · exact h

theorem Found.less {bd : Bool} {ab : List Int} {l : List Tr} {s t : Tr} (h : ∀ u ∈ l, Cand bd ab u → ¬ ltL u.2.1 s.2.1) (ht : Cand bd ab t) (hlt : ltL t.2.1 s.2.1) : Found bd ab (l ++ [t]) t.1 true :=
  .inr ⟨rfl, t, by simp, rfl, ht, fun u hu hc => by
    rcases mem_snoc.1 hu with hu | rfl
    · exact fun k => h u hu hc (ltL_trans k hlt)
    · exact ltL_irrefl _⟩

theorem Found.stays {bd : Bool} {ab : List Int} {l : List Tr} {s t : Tr} (hs : s ∈ l) (hc : Cand bd ab s) (h : ∀ u ∈ l, Cand bd ab u → ¬ ltL u.2.1 s.2.1) (hlt : ¬ ltL t.2.1 s.2.1) : Found bd ab (l ++ [t]) s.1 true :=
  .inr ⟨rfl, s, by simp [hs], rfl, hc, fun u hu hc2 => by
    rcases mem_snoc.1 hu with hu | rfl
    · exact h u hu hc2
    · exact hlt⟩

theorem take_snoc {α : Type} {l : List α} {i : Nat} {x : α} (h : l[i]? = some x) : l.take (i + 1) = l.take i ++ [x] := by
  rw [List.take_add_one, h]; rfl

theorem Parts.elem {w wr : World} {B : Nat} {v : Value} {ts : List Tr} (h : Parts w B v ts) (hB : B ≤ w.heap.size) (hb : Below w.heap.size w wr) {t : Tr} (ht : t ∈ ts) : Ints wr B B t.1 t.2.1 := by
  obtain ⟨_, _, _, _, _, hI, _⟩ := h
  exact (hI t ht).at hB hb

set_option maxHeartbeats 2000000 in
set_option maxRecDepth 100000 in
theorem least_false (B : Nat) (v av : Value) (ts : List Tr) (ab : List Int) (w : World) (hB : B ≤ w.heap.size) (hp : Parts w B v ts) (ha : Ints w B B av ab) :
    Calls Try.prog 82 #[v, av, .bool false] w fun e w' => ∃ v' f, e = .returned (.tuple #[v', .bool f]) ∧ Found false ab ts v' f ∧ (∃ a n c, v' = .slice a n c) ∧ Below w.heap.size w w' := by
  have HP : Hid (Parts w B v ts) := hp
  have HA : Hid (Ints w B B av ab) := ha
  obtain ⟨a, c, rfl, hc, hl, _⟩ := hp
  obtain ⟨aa, ac, rfl, _⟩ := ha
  go_enter Try.func82, Try.ntmps82
  go_wp2
  go_loopw [8, 9, 14] (fun s f u wr => ∃ (i : Nat) (fb : Bool), f = .bool fb ∧ u = .int .i64 (i : Int) ∧ i ≤ ts.length ∧ Found false ab (ts.take i) s fb ∧ Below w.heap.size w wr) (fun _ _ u _ => ts.length - (intOf u).toNat)
  case atStart => exact ⟨0, false, rfl, rfl, Nat.zero_le _, .inl ⟨rfl, rfl, by simp⟩, Below.refl _ _⟩
  case round =>
    obtain ⟨i, fb, rfl, rfl, hit, hF, hbl⟩ := hrel
    have HF : Hid (Found false ab (ts.take i) u8 fb) := hF
    have hs1 := hbl.size
    clear hF
    by_cases h1 : i < ts.length
    · obtain ⟨b, o, sa, sc, xs, k, rfl, hb, hs, c1, c2, hI⟩ := HP.out.get hB hbl h1
      have HI : Hid (Ints wr B B (.slice sa xs.length sc) xs) := hI
      have HAr : Hid (Ints wr B B (.slice aa ab.length ac) ab) := HA.out.at hB hbl
      have HS : Hid (ts[i]? = some (.slice sa xs.length sc, xs, k)) := hs
      clear hs hI
      have hu8 : ∃ a n c, u8 = .slice a n c := by
        rcases HF.out with ⟨_, h, _⟩ | ⟨_, t, ht, h, _⟩
        · exact ⟨_, _, _, h⟩
        · obtain ⟨x, y, h2, _⟩ := HP.out.elem hB hbl (List.mem_of_mem_take ht)
          exact ⟨_, _, _, h.trans h2⟩
      obtain ⟨ua, un, uc, rfl⟩ := hu8
      by_cases hk : 0 < k
      · have hk2 : decide (0 < k) = true := decide_eq_true hk
        have hcand : Hid (Cand false ab (.slice sa xs.length sc, xs, k)) := ⟨hk, fun h => by cases h⟩
        cases fb with
        | false =>
          have HN : Hid (Found false ab (ts.take (i + 1)) (.slice sa xs.length sc) true) := by rw [Hid, take_snoc HS.out]; exact HF.out.first hcand.out
          go_wp2
          go_roundw
          case rel => exact ⟨i + 1, true, rfl, by go_num, h1, HN.out, bal hbl _⟩
          case measure => simp [intOf]; omega
        | true =>
          obtain ⟨⟨hv, xo, ko⟩, hsm, he, hco, hmin⟩ := HF.out.held
          have HIo : Hid (Ints wr B B hv xo) := HP.out.elem hB hbl (List.mem_of_mem_take hsm)
          simp only at he
          subst he
          obtain ⟨r2, HC2⟩ : ∃ r2, Hid (cmpT xs xo = r2) := ⟨_, rfl⟩
          have HM : Hid ((.slice ua un uc, xo, ko) ∈ ts.take i ∧ Cand false ab (.slice ua un uc, xo, ko) ∧ ∀ u ∈ ts.take i, Cand false ab u → ¬ ltL u.2.1 xo) := ⟨hsm, hco, hmin⟩
          clear hsm hco hmin
          by_cases hr2 : r2 < 0
          · have HN : Hid (Found false ab (ts.take (i + 1)) (.slice sa xs.length sc) true) := by
              rw [Hid, take_snoc HS.out]
              exact Found.less (s := (.slice ua un uc, xo, ko)) HM.out.2.2 hcand.out (by show cmpT xs xo < 0; rw [HC2.out]; exact hr2)
            go_wp2_with fail
            refine (refCompare_any B B B _ _ xs xo _ ?_ ?_ r2 HC2.out).mono ?_
            · exact HI.out.at (by omega) (ba _ _)
            · exact HIo.out.at (by omega) (ba _ _)
            rintro e w2 ⟨rfl, q2, rfl⟩
            go_wp2
            go_roundw
            case rel => exact ⟨i + 1, true, rfl, by go_num, h1, HN.out, below_drewN (bal hbl _) _⟩
            case measure => simp [intOf]; omega
          · have HN : Hid (Found false ab (ts.take (i + 1)) (.slice ua un uc) true) := by
              rw [Hid, take_snoc HS.out]
              exact Found.stays (s := (.slice ua un uc, xo, ko)) HM.out.1 HM.out.2.1 HM.out.2.2 (by show ¬ cmpT xs xo < 0; rw [HC2.out]; exact hr2)
            go_wp2_with fail
            refine (refCompare_any B B B _ _ xs xo _ ?_ ?_ r2 HC2.out).mono ?_
            · exact HI.out.at (by omega) (ba _ _)
            · exact HIo.out.at (by omega) (ba _ _)
            rintro e w2 ⟨rfl, q2, rfl⟩
            go_wp2
            go_roundw
            case rel => exact ⟨i + 1, true, rfl, by go_num, h1, HN.out, below_drewN (bal hbl _) _⟩
            case measure => simp [intOf]; omega
      · have HN : Hid (Found false ab (ts.take (i + 1)) (.slice ua un uc) fb) := by
          rw [Hid, take_snoc HS.out]
          exact HF.out.skip (fun h => hk h.1)
        go_wp2
        go_roundw
        case rel => exact ⟨i + 1, fb, rfl, by go_num, h1, HN.out, bal hbl _⟩
        case measure => simp [intOf]; omega
    · have hii : i = ts.length := by omega
      have HN : Hid (Found false ab ts u8 fb) := by have := HF.out; rwa [hii, List.take_length] at this
      have hu8 : ∃ a n c, u8 = .slice a n c := by
        rcases HN.out with ⟨_, h, _⟩ | ⟨_, t, ht, h, _⟩
        · exact ⟨_, _, _, h⟩
        · obtain ⟨x, y, h2, _⟩ := HP.out.elem hB hbl ht
          exact ⟨_, _, _, h.trans h2⟩
      obtain ⟨ua, un, uc, rfl⟩ := hu8
      go_wp2
      exact bodyPost_ret (v := .tuple #[.slice ua un uc, .bool fb]) (by simp [results, Try.results82, go_sem]) rfl ⟨_, _, rfl, HN.out, ⟨_, _, _, rfl⟩, hbl⟩

set_option maxHeartbeats 2000000 in
set_option maxRecDepth 100000 in
theorem least_true (B : Nat) (v av : Value) (ts : List Tr) (ab : List Int) (w : World) (hB : B ≤ w.heap.size) (hp : Parts w B v ts) (ha : Ints w B B av ab) :
    Calls Try.prog 82 #[v, av, .bool true] w fun e w' => ∃ v' f, e = .returned (.tuple #[v', .bool f]) ∧ Found true ab ts v' f ∧ (∃ a n c, v' = .slice a n c) ∧ Below w.heap.size w w' := by
  have HP : Hid (Parts w B v ts) := hp
  have HA : Hid (Ints w B B av ab) := ha
  obtain ⟨a, c, rfl, hc, hl, _⟩ := hp
  obtain ⟨aa, ac, rfl, _⟩ := ha
  go_enter Try.func82, Try.ntmps82
  go_wp2
  go_loopw [8, 9, 14] (fun s f u wr => ∃ (i : Nat) (fb : Bool), f = .bool fb ∧ u = .int .i64 (i : Int) ∧ i ≤ ts.length ∧ Found true ab (ts.take i) s fb ∧ Below w.heap.size w wr) (fun _ _ u _ => ts.length - (intOf u).toNat)
  case atStart => exact ⟨0, false, rfl, rfl, Nat.zero_le _, .inl ⟨rfl, rfl, by simp⟩, Below.refl _ _⟩
  case round =>
    obtain ⟨i, fb, rfl, rfl, hit, hF, hbl⟩ := hrel
    have HF : Hid (Found true ab (ts.take i) u8 fb) := hF
    have hs1 := hbl.size
    clear hF
    by_cases h1 : i < ts.length
    · obtain ⟨b, o, sa, sc, xs, k, rfl, hb, hs, c1, c2, hI⟩ := HP.out.get hB hbl h1
      have HI : Hid (Ints wr B B (.slice sa xs.length sc) xs) := hI
      have HAr : Hid (Ints wr B B (.slice aa ab.length ac) ab) := HA.out.at hB hbl
      have HS : Hid (ts[i]? = some (.slice sa xs.length sc, xs, k)) := hs
      clear hs hI
      have hu8 : ∃ a n c, u8 = .slice a n c := by
        rcases HF.out with ⟨_, h, _⟩ | ⟨_, t, ht, h, _⟩
        · exact ⟨_, _, _, h⟩
        · obtain ⟨x, y, h2, _⟩ := HP.out.elem hB hbl (List.mem_of_mem_take ht)
          exact ⟨_, _, _, h.trans h2⟩
      obtain ⟨ua, un, uc, rfl⟩ := hu8
      by_cases hk : 0 < k
      · have hk2 : decide (0 < k) = true := decide_eq_true hk
        obtain ⟨r1, HC⟩ : ∃ r1, Hid (cmpT xs ab = r1) := ⟨_, rfl⟩
        by_cases hr1 : 0 < r1
        · have hcand : Hid (Cand true ab (.slice sa xs.length sc, xs, k)) := ⟨hk, fun _ => by show cmpT ab xs < 0; rw [cmpT_swap xs ab, HC.out]; omega⟩
          cases fb with
          | false =>
            have HN : Hid (Found true ab (ts.take (i + 1)) (.slice sa xs.length sc) true) := by rw [Hid, take_snoc HS.out]; exact HF.out.first hcand.out
            go_wp2_with fail
            refine (refCompare_any B B B _ _ xs ab _ ?_ ?_ r1 HC.out).mono ?_
            · exact HI.out.at (by omega) (ba _ _)
            · exact HAr.out.at (by omega) (ba _ _)
            rintro e w1 ⟨rfl, q, rfl⟩
            go_wp2
            go_roundw
            case rel => exact ⟨i + 1, true, rfl, by go_num, h1, HN.out, below_drewN (bal hbl _) _⟩
            case measure => simp [intOf]; omega
          | true =>
            obtain ⟨⟨hv, xo, ko⟩, hsm, he, hco, hmin⟩ := HF.out.held
            have HIo : Hid (Ints wr B B hv xo) := HP.out.elem hB hbl (List.mem_of_mem_take hsm)
            simp only at he
            subst he
            obtain ⟨r2, HC2⟩ : ∃ r2, Hid (cmpT xs xo = r2) := ⟨_, rfl⟩
            have HM : Hid ((.slice ua un uc, xo, ko) ∈ ts.take i ∧ Cand true ab (.slice ua un uc, xo, ko) ∧ ∀ u ∈ ts.take i, Cand true ab u → ¬ ltL u.2.1 xo) := ⟨hsm, hco, hmin⟩
            clear hsm hco hmin
            by_cases hr2 : r2 < 0
            · have HN : Hid (Found true ab (ts.take (i + 1)) (.slice sa xs.length sc) true) := by
                rw [Hid, take_snoc HS.out]
                exact Found.less (s := (.slice ua un uc, xo, ko)) HM.out.2.2 hcand.out (by show cmpT xs xo < 0; rw [HC2.out]; exact hr2)
              go_wp2_with fail
              refine (refCompare_any B B B _ _ xs ab _ ?_ ?_ r1 HC.out).mono ?_
              · exact HI.out.at (by omega) (ba _ _)
              · exact HAr.out.at (by omega) (ba _ _)
              rintro e w1 ⟨rfl, q, rfl⟩
              go_wp2_with fail
              refine (refCompare_any B B B _ _ xs xo _ ?_ ?_ r2 HC2.out).mono ?_
              · exact HI.out.at (by omega) (below_drewN (ba _ _) q)
              · exact HIo.out.at (by omega) (below_drewN (ba _ _) q)
              rintro e w2 ⟨rfl, q2, rfl⟩
              go_wp2
              go_roundw
              case rel => exact ⟨i + 1, true, rfl, by go_num, h1, HN.out, below_drewN (bal hbl _) _⟩
              case measure => simp [intOf]; omega
            · have HN : Hid (Found true ab (ts.take (i + 1)) (.slice ua un uc) true) := by
                rw [Hid, take_snoc HS.out]
                exact Found.stays (s := (.slice ua un uc, xo, ko)) HM.out.1 HM.out.2.1 HM.out.2.2 (by show ¬ cmpT xs xo < 0; rw [HC2.out]; exact hr2)
              go_wp2_with fail
              refine (refCompare_any B B B _ _ xs ab _ ?_ ?_ r1 HC.out).mono ?_
              · exact HI.out.at (by omega) (ba _ _)
              · exact HAr.out.at (by omega) (ba _ _)
              rintro e w1 ⟨rfl, q, rfl⟩
              go_wp2_with fail
              refine (refCompare_any B B B _ _ xs xo _ ?_ ?_ r2 HC2.out).mono ?_
              · exact HI.out.at (by omega) (below_drewN (ba _ _) q)
              · exact HIo.out.at (by omega) (below_drewN (ba _ _) q)
              rintro e w2 ⟨rfl, q2, rfl⟩
              go_wp2
              go_roundw
              case rel => exact ⟨i + 1, true, rfl, by go_num, h1, HN.out, below_drewN (bal hbl _) _⟩
              case measure => simp [intOf]; omega
        · have HN : Hid (Found true ab (ts.take (i + 1)) (.slice ua un uc) fb) := by
            rw [Hid, take_snoc HS.out]
            exact HF.out.skip (fun h => hr1 (by have h2 := h.2 rfl; have h3 : cmpT ab xs < 0 := h2; rw [cmpT_swap xs ab, HC.out] at h3; omega))
          go_wp2_with fail
          refine (refCompare_any B B B _ _ xs ab _ ?_ ?_ r1 HC.out).mono ?_
          · exact HI.out.at (by omega) (ba _ _)
          · exact HAr.out.at (by omega) (ba _ _)
          rintro e w1 ⟨rfl, q, rfl⟩
          go_wp2
          go_roundw
          case rel => exact ⟨i + 1, fb, rfl, by go_num, h1, HN.out, below_drewN (bal hbl _) _⟩
          case measure => simp [intOf]; omega
      · have HN : Hid (Found true ab (ts.take (i + 1)) (.slice ua un uc) fb) := by
          rw [Hid, take_snoc HS.out]
          exact HF.out.skip (fun h => hk h.1)
        go_wp2
        go_roundw
        case rel => exact ⟨i + 1, fb, rfl, by go_num, h1, HN.out, bal hbl _⟩
        case measure => simp [intOf]; omega
    · have hii : i = ts.length := by omega
      have HN : Hid (Found true ab ts u8 fb) := by have := HF.out; rwa [hii, List.take_length] at this
      have hu8 : ∃ a n c, u8 = .slice a n c := by
        rcases HN.out with ⟨_, h, _⟩ | ⟨_, t, ht, h, _⟩
        · exact ⟨_, _, _, h⟩
        · obtain ⟨x, y, h2, _⟩ := HP.out.elem hB hbl ht
          exact ⟨_, _, _, h.trans h2⟩
      obtain ⟨ua, un, uc, rfl⟩ := hu8
      go_wp2
      exact bodyPost_ret (v := .tuple #[.slice ua un uc, .bool fb]) (by simp [results, Try.results82, go_sem]) rfl ⟨_, _, rfl, HN.out, ⟨_, _, _, rfl⟩, hbl⟩
end Go.Proofs.Ytcglfojbgdlbhaa
