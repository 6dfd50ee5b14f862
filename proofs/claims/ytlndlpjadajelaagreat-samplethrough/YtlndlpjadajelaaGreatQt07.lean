import Derived.Test.YtlndlpjadajelaaGreatQt06
import Derived.Test.YtlndlpjadajelaaGreatQt03
namespace Go.Proofs.YtlndlpjadajelaaGreat
open Go.RowKit Go.Proofs.YtlndlpjadajelaaGreat.Ds

/-- nil of none, or a row of one's own -/
def OwnN (w : World) (lo : Nat) (v : Value) (ts : List Tr) : Prop := (v = .slice none 0 0 ∧ ts = []) ∨ Own w lo v ts

theorem OwnN.parts {w : World} {lo : Nat} {v : Value} {ts : List Tr} (h : OwnN w lo v ts) : Parts w w.heap.size v ts := by
  rcases h with ⟨rfl, rfl⟩ | h
  · exact parts_nil _ _
  · exact h.parts
theorem OwnN.keep {w w' : World} {lo : Nat} {v : Value} {ts : List Tr} (h : OwnN w lo v ts) (hb : Below w.heap.size w w') : OwnN w' lo v ts := by
  rcases h with h | h
  · exact .inl h
  · exact .inr (h.keep hb)
theorem OwnN.mono {w : World} {lo lo' : Nat} {v : Value} {ts : List Tr} (h : OwnN w lo v ts) (hl : lo' ≤ lo) : OwnN w lo' v ts := by
  rcases h with h | h
  · exact .inl h
  · exact .inr (h.mono hl)
theorem OwnN.slice {w : World} {lo : Nat} {v : Value} {ts : List Tr} (h : OwnN w lo v ts) : ∃ a c, v = .slice a ts.length c := by
  rcases h with ⟨rfl, rfl⟩ | ⟨b, o, c, h, _⟩
  · exact ⟨_, _, rfl⟩
  · exact ⟨_, _, h⟩

theorem dvF_append (g : Nat) (l : List Pt) (p : Pt) : dvF g (l ++ [p]) = Nat.gcd (dvF g l) p.2.natAbs := by
  induction l generalizing g with
  | nil => rfl
  | cons q l ih => simp only [List.cons_append, dvF, ih]

theorem dvF_take {l : List Pt} {i : Nat} {p : Pt} (h : l[i]? = some p) : dvF 0 (l.take (i + 1)) = Nat.gcd (dvF 0 (l.take i)) p.2.natAbs := by
  rw [List.take_add_one, h]; exact dvF_append _ _ _

theorem dvF_le {l : List Pt} {M : Nat} (h : ∀ p ∈ l, p.2.natAbs ≤ M) (hp : Pos l) : dvF 0 l ≤ M := by
  rw [dvF_eq, Nat.gcd_zero_left]
  cases l with
  | nil => simp [dv]
  | cons p l =>
    have h1 := h p (by simp)
    have h2 := hp p (by simp)
    exact Nat.le_trans (Nat.le_of_dvd (by omega) (dv_dvd (l := p :: l) (by simp))) h1

/-- divided up to i -/
def cutI (g : Int) (ts : List Tr) (i : Nat) : List Tr := (ts.take i).map (fun t => (t.1, t.2.1, t.2.2 / g)) ++ ts.drop i

theorem cutI_len (g : Int) (ts : List Tr) (i : Nat) : (cutI g ts i).length = ts.length := by simp [cutI]; omega
theorem cutI_get (g : Int) {ts : List Tr} {i : Nat} (h : i < ts.length) : (cutI g ts i)[i]? = ts[i]? := by
  have e : ((ts.take i).map (fun t : Tr => (t.1, t.2.1, t.2.2 / g))).length = i := by simp; omega
  rw [cutI, List.getElem?_append_right (by omega), e]; simp
theorem cutI_set (g : Int) {ts : List Tr} {i : Nat} {t : Tr} (h : ts[i]? = some t) : (cutI g ts i).set i (t.1, t.2.1, t.2.2 / g) = cutI g ts (i + 1) := by
  have hi := (List.getElem?_eq_some_iff.1 h).1
  have e : ((ts.take i).map (fun t : Tr => (t.1, t.2.1, t.2.2 / g))).length = i := by simp; omega
  have e2 : ts.drop i = t :: ts.drop (i + 1) := by rw [List.drop_eq_getElem_cons hi, (List.getElem?_eq_some_iff.1 h).2]
  rw [cutI, cutI, List.set_append_right _ _ (by omega), e, e2, List.take_add_one, h]
  simp
theorem cutI_all (g : Int) (ts : List Tr) : rd (cutI g ts ts.length) = cut g (rd ts) := by simp [cutI, rd, cut]
theorem cutI_zero (g : Int) (ts : List Tr) : cutI g ts 0 = ts := by simp [cutI]
theorem cutI_mem {g : Int} {ts : List Tr} {i : Nat} {t : Tr} (h : t ∈ cutI g ts i) : ∃ u ∈ ts, t.1 = u.1 ∧ t.2.1 = u.2.1 := by
  rcases List.mem_append.1 h with h | h
  · obtain ⟨u, hu, rfl⟩ := List.mem_map.1 h; exact ⟨u, List.mem_of_mem_take hu, rfl, rfl⟩
  · exact ⟨t, List.mem_of_mem_drop h, rfl, rfl⟩

theorem Pos.take {l : List Pt} (h : Pos l) (i : Nat) : Pos (l.take i) := fun p hp => h p (List.mem_of_mem_take hp)

set_option maxHeartbeats 2000000 in
set_option maxRecDepth 100000 in
theorem lowest_fr (lo : Nat) (v : Value) (ts : List Tr) (w : World) (ho : Own w lo v ts) (hp : Pos (rd ts)) (hM : tot (rd ts) ≤ 4611686018427387904) (l : List Pt) (er : Int) (hr : lowT (rd ts) = (l, er)) :
    Calls Tryz.prog 163 #[v] w fun e w' => ∃ v' us, e = .returned (.tuple #[v', .int .i64 er]) ∧ rd us = l ∧ OwnN w' lo v' us ∧ Below lo w w' ∧ ∀ t ∈ us, ∃ u ∈ ts, t.1 = u.1 ∧ t.2.1 = u.2.1 := by
  obtain ⟨b, o, c, rfl, hc, hl, hlo, hrow, hI⟩ := ho
  have HH : Hid (Row w b o ts ∧ (∀ t ∈ ts, Ints w w.heap.size b t.1 t.2.1) ∧ Pos (rd ts) ∧ tot (rd ts) ≤ 4611686018427387904 ∧ lowT (rd ts) = (l, er)) := ⟨hrow, hI, hp, hM, hr⟩
  have hbs := hrow.lt
  clear hrow hI hp hM hr
  by_cases h0 : ts = []
  · subst h0
    have h1 := HH.out.2.2.2.2
    obtain ⟨rfl, rfl⟩ : l = [] ∧ er = 6 := by simp [lowT, rd] at h1; exact ⟨h1.1, h1.2.symm⟩
    clear h1 HH
    go_enter Tryz.func163, Tryz.ntmps163
    go_wp2
    exact bodyPost_ret (v := .tuple #[.slice none 0 0, .int .i64 6]) (by simp [results, Tryz.results163, go_sem]) rfl ⟨_, [], rfl, rfl, .inl ⟨rfl, rfl⟩, Below.refl _ _, fun t ht => by cases ht⟩
  have hpos : 0 < ts.length := by cases ts with | nil => exact absurd rfl h0 | cons _ _ => simp
  have hz0 : ((ts.length : Int) == 0) = false := by simp; exact h0
  clear h0
  go_enter Tryz.func163, Tryz.ntmps163
  go_wp2
  go_loopw [4, 13] (fun s u wr => ∃ (i g : Nat), s = .int .i64 (g : Int) ∧ u = .int .i64 (i : Int) ∧ i ≤ ts.length ∧ dvF 0 ((rd ts).take i) = g ∧ Below w.heap.size w wr) (fun _ u _ => ts.length - (intOf u).toNat)
  case atStart => exact ⟨0, 0, rfl, rfl, Nat.zero_le _, by simp [dvF], Below.refl _ _⟩
  case round =>
    obtain ⟨i, g, rfl, rfl, hit, hg, hbl⟩ := hrel
    have HG : Hid (dvF 0 ((rd ts).take i) = g) := hg
    have hgb : g ≤ 4611686018427387904 := by
      rw [← hg]
      refine dvF_le (fun p hp => ?_) (Pos.take HH.out.2.2.1 i)
      have h1 := Pos.le_tot (Nn.of_pos HH.out.2.2.1) (List.mem_of_mem_take hp)
      have h2 := HH.out.2.2.1 p (List.mem_of_mem_take hp)
      have h3 := HH.out.2.2.2.1
      omega
    clear hg
    by_cases h1 : i < ts.length
    · obtain ⟨⟨s, xs, k⟩, hs⟩ := get_lt h1
      obtain ⟨sa, sc, he, _⟩ := HH.out.2.1 _ (List.mem_of_getElem? hs)
      simp only at he
      subst he
      obtain ⟨c1, c2⟩ := HH.out.1.cells.get hbl hbs hs
      simp only at c1 c2
      have HZ : Hid ((rd ts)[i]? = some (xs, k)) := rd_get hs
      have hk0 : 0 < k := HH.out.2.2.1 (xs, k) (List.mem_of_getElem? HZ.out)
      have hk1 : k ≤ 4611686018427387904 := by
        have h1 := Pos.le_tot (Nn.of_pos HH.out.2.2.1) (List.mem_of_getElem? HZ.out)
        have h3 := HH.out.2.2.2.1
        simp only at h1
        omega
      obtain ⟨m, rfl⟩ := Int.eq_ofNat_of_zero_le (Int.le_of_lt hk0)
      have kc := fun W => divisor_any g m (by omega) (by omega) W
      have HN : Hid (dvF 0 ((rd ts).take (i + 1)) = Nat.gcd g m) := by rw [Hid, dvF_take HZ.out, HG.out]; rfl
      clear hs
      go_wp2_with (go_at_call 90; refine (kc _).mono ?_; rintro e w1 ⟨rfl, hb1⟩)
      go_roundw
      case rel => exact ⟨i + 1, Nat.gcd g m, rfl, by go_num, h1, HN.out, bt (bal hbl _) hb1⟩
      case measure => simp [intOf]; omega
    · have hgd : g = dv (rd ts) := by rw [← HG.out, rd_take_all (by omega), dvF_eq, Nat.gcd_zero_left]
      have HD : Hid (g = dv (rd ts)) := hgd
      have hg0 : 0 < g := by rw [hgd]; exact dv_pos HH.out.2.2.1 (by intro h; rw [← rd_len, h] at hpos; simp at hpos)
      have HR : Hid (Row wr b o ts) := HH.out.1.keep hbl
      have HI : Hid (∀ t ∈ ts, Ints wr wr.heap.size b t.1 t.2.1) := fun t ht => (HH.out.2.1 t ht).at2 hbl
      clear hgd HG
      go_wp2
      go_loopw [24] (fun u wq => ∃ j : Nat, u = .int .i64 (j : Int) ∧ j ≤ ts.length ∧ Row wq b o (cutI g ts j) ∧ (∀ t ∈ ts, Ints wq wq.heap.size b t.1 t.2.1) ∧ Below lo w wq) (fun u _ => ts.length - (intOf u).toNat)
      case atStart => exact ⟨0, rfl, Nat.zero_le _, by rw [cutI_zero]; exact HR.out, HI.out, hbl.mono (by omega)⟩
      case round =>
        obtain ⟨j, rfl, hjt, hrow, hints, hbq⟩ := hrel
        have HR2 : Hid (Row wr b o (cutI g ts j)) := hrow
        have HI2 : Hid (∀ t ∈ ts, Ints wr wr.heap.size b t.1 t.2.1) := hints
        clear hrow hints
        by_cases h2 : j < ts.length
        · obtain ⟨⟨s, xs, k⟩, hs⟩ := get_lt h2
          have hs2 : (cutI g ts j)[j]? = some (s, xs, k) := by rw [cutI_get _ h2]; exact hs
          obtain ⟨c1, c2⟩ := HR2.out.cells j _ hs2
          have c3 := HR2.out.thaw (j * 2 + 1) (by rw [cutI_len]; omega)
          rw [← Nat.add_assoc] at c3
          simp only at c1 c2
          have hk0 : 0 < k := HH.out.2.2.1 (xs, k) (List.mem_of_getElem? (rd_get hs))
          have hk1 : k ≤ 4611686018427387904 := by
            have h1 := Pos.le_tot (Nn.of_pos HH.out.2.2.1) (List.mem_of_getElem? (rd_get hs))
            have h3 := HH.out.2.2.2.1
            simp only at h1
            omega
          obtain ⟨m, rfl⟩ := Int.eq_ofNat_of_zero_le (Int.le_of_lt hk0)
          have hdv : ((m : Int) / (g : Int)) ≤ 4611686018427387904 := Int.le_trans (Int.ediv_le_self _ (by omega)) hk1
          have hdv0 : 0 ≤ ((m : Int) / (g : Int)) := Int.ediv_nonneg (by omega) (by omega)
          have hgz : ((g : Int) == 0) = false := by simp; omega
          have HS : Hid (ts[j]? = some (s, xs, (m : Int))) := hs
          have HR3 : Hid (Row (wr.setCell ⟨b, o + j * 2 + 1, none⟩ (.int .i64 ((m : Int) / (g : Int)))) b o (cutI g ts (j + 1))) := by
            have := HR2.out.setW hs2 ((m : Int) / (g : Int))
            rwa [show (cutI g ts j).set j (s, xs, (m : Int) / (g : Int)) = cutI g ts (j + 1) from cutI_set g hs] at this
          clear hs hs2
          go_wp2
          go_roundw
          case rel => exact ⟨j + 1, by go_num, h2, HR3.out, fun t ht => by simpa using (HI2.out t ht).set rfl _, hbq.setCell (by simp; omega) _⟩
          case measure => simp [intOf]; omega
        · have hj : j = ts.length := by omega
          subst hj
          have hcut : rd (cutI g ts ts.length) = cut (dv (rd ts)) (rd ts) := by rw [cutI_all, HD.out]
          have hI3 : ∀ t ∈ cutI g ts ts.length, Ints wr wr.heap.size b t.1 t.2.1 := by
            intro t ht
            obtain ⟨u, hu, e1, e2⟩ := cutI_mem ht
            rw [e1, e2]
            exact HI2.out u hu
          have hown : Own wr lo (.slice (some ⟨b, o, none⟩) ts.length c) (cutI g ts ts.length) := ⟨b, o, c, by rw [cutI_len], by rw [cutI_len]; exact hc, by rw [cutI_len]; exact hl, hlo, HR2.out, hI3⟩
          have HO : Hid (Own wr lo (.slice (some ⟨b, o, none⟩) ts.length c) (cutI g ts ts.length)) := hown
          have hnn : Nn (rd (cutI g ts ts.length)) := by
            rw [hcut]
            intro p hp
            obtain ⟨q, hq, rfl⟩ := List.mem_map.1 hp
            exact Int.ediv_nonneg (Int.le_of_lt (HH.out.2.2.1 q hq)) (by omega)
          obtain ⟨T, hT⟩ : ∃ T, tot (cut (dv (rd ts)) (rd ts)) = T := ⟨_, rfl⟩
          have hTle : T ≤ 4611686018427387904 := by
            rw [← hT, cut_tot fun p hp => dv_dvd_int hp]
            exact Int.le_trans (Int.ediv_le_self _ (Nn.of_pos HH.out.2.2.1).tot_nn) HH.out.2.2.2.1
          have kc := total_any wr.heap.size (.slice (some ⟨b, o, none⟩) ts.length c) (cutI g ts ts.length) wr (Nat.le_refl _) hown.parts hnn (by rw [hcut, hT]; exact hTle) T (by rw [hcut, hT])
          have hlow := HH.out.2.2.2.2
          have hne : rd ts ≠ [] := by intro h; rw [← rd_len, h] at hpos; simp at hpos
          rw [lowT, if_neg hne, hT, rd_len] at hlow
          have HL : Hid ((if 1073741824 < T ∨ 4096 < ts.length then ([], 4) else (cut (dv (rd ts)) (rd ts), (0 : Int))) = (l, er)) := hlow
          have HCU : Hid (rd (cutI g ts ts.length) = cut (dv (rd ts)) (rd ts)) := hcut
          clear hlow hcut hI3 hown hnn hne hT HR2 HI2
          by_cases hm : 1073741824 < T
          · have hl2 := HL.out
            rw [if_pos (.inl hm)] at hl2
            simp only [Prod.mk.injEq] at hl2
            obtain ⟨rfl, rfl⟩ := hl2
            go_wp2_with (go_at_call 38; refine kc.mono ?_; rintro e w1 ⟨rfl, hb1⟩)
            exact bodyPost_ret (v := .tuple #[.slice none 0 0, .int .i64 4]) (by simp [results, Tryz.results163, go_sem]) rfl ⟨_, [], rfl, rfl, .inl ⟨rfl, rfl⟩, hbq.trans (hb1.mono (by have := hbq.size; omega)), fun t ht => by cases ht⟩
          · by_cases hm2 : 4096 < ts.length
            · have hl2 := HL.out
              rw [if_pos (.inr hm2)] at hl2
              simp only [Prod.mk.injEq] at hl2
              obtain ⟨rfl, rfl⟩ := hl2
              go_wp2_with (go_at_call 38; refine kc.mono ?_; rintro e w1 ⟨rfl, hb1⟩)
              exact bodyPost_ret (v := .tuple #[.slice none 0 0, .int .i64 4]) (by simp [results, Tryz.results163, go_sem]) rfl ⟨_, [], rfl, rfl, .inl ⟨rfl, rfl⟩, hbq.trans (hb1.mono (by have := hbq.size; omega)), fun t ht => by cases ht⟩
            · have hl2 := HL.out
              rw [if_neg (by intro h; rcases h with h | h <;> omega)] at hl2
              simp only [Prod.mk.injEq] at hl2
              obtain ⟨hl2, rfl⟩ := hl2
              have HL2 : Hid (cut (dv (rd ts)) (rd ts) = l) := hl2
              clear hl2
              go_wp2_with (go_at_call 38; refine kc.mono ?_; rintro e w1 ⟨rfl, hb1⟩)
              exact bodyPost_ret (v := .tuple #[.slice (some ⟨b, o, none⟩) ts.length c, .int .i64 0]) (by simp [results, Tryz.results163, go_sem]) rfl ⟨_, cutI g ts ts.length, rfl, HCU.out.trans HL2.out, .inr (HO.out.keep hb1), hbq.trans (hb1.mono (by have := hbq.size; omega)), fun t ht => cutI_mem ht⟩

theorem lowest_any (lo : Nat) (v : Value) (ts : List Tr) (w : World) (ho : Own w lo v ts) (hp : Pos (rd ts)) (hM : tot (rd ts) ≤ 4611686018427387904) (l : List Pt) (er : Int) (hr : lowT (rd ts) = (l, er)) :
    Calls Tryz.prog 163 #[v] w fun e w' => ∃ v' us, e = .returned (.tuple #[v', .int .i64 er]) ∧ rd us = l ∧ OwnN w' lo v' us ∧ Below lo w w' :=
  (lowest_fr lo v ts w ho hp hM l er hr).mono fun _ _ ⟨v', us, h1, h2, h3, h4, _⟩ => ⟨v', us, h1, h2, h3, h4⟩

/-! ### Make -/

theorem all_okP {l : List Pt} (h : l.all okP = true) : Nn l ∧ ∀ p ∈ l, p.2 ≤ 1073741824 := by
  have h1 : ∀ p ∈ l, 0 ≤ p.2 ∧ p.2 ≤ 1073741824 := by
    intro p hp
    have := List.all_eq_true.1 h p hp
    simp [okP] at this
    exact this.1
  exact ⟨fun p hp => (h1 p hp).1, fun p hp => (h1 p hp).2⟩

theorem tot_ok {l : List Pt} (h : l.all okP = true) (hl : l.length ≤ 1073741824) : tot l ≤ 4611686018427387904 := by
  have h1 := tot_le (all_okP h).2
  have h2 : (l.length : Int) * 1073741824 ≤ 1073741824 * 1073741824 := Int.mul_le_mul_of_nonneg_right (by omega) (by omega)
  omega

set_option maxHeartbeats 1000000 in
theorem make_fr (B : Nat) (v : Value) (ts : List Tr) (w : World) (hB : B ≤ w.heap.size) (hp : Parts w B v ts) (l : List Pt) (er : Int) (hr : makeT (rd ts) = (l, er)) :
    Calls Tryz.prog 113 #[v] w fun e w' => ∃ v' us, e = .returned (.tuple #[v', .int .i64 er]) ∧ rd us = l ∧ OwnN w' w.heap.size v' us ∧ Below w.heap.size w w' ∧ Frs w.heap.size us := by
  have HP : Hid (Parts w B v ts) := hp
  obtain ⟨a, c, rfl, hc, hl, _⟩ := hp
  cases hok : (rd ts).all okP with
  | false =>
    rw [makeT, hok] at hr
    simp only [Bool.false_eq_true, if_false, Prod.mk.injEq] at hr
    obtain ⟨rfl, rfl⟩ := hr
    have kc := containsP_any B _ ts w hB HP.out _ hok
    clear hok
    go_enter Tryz.func113, Tryz.ntmps113
    go_wp2_with (go_at_call 173; refine kc.mono ?_; rintro e w1 ⟨rfl, hb1⟩)
    exact bodyPost_ret (v := .tuple #[.slice none 0 0, .int .i64 3]) (by simp [results, Tryz.results113, go_sem]) rfl ⟨_, [], rfl, rfl, .inl ⟨rfl, rfl⟩, hb1, Frs.nil _⟩
  | true =>
    rw [makeT, hok] at hr
    simp only [if_true] at hr
    have kc := containsP_any B _ ts w hB HP.out _ hok
    have hM := tot_ok hok (by rw [rd_len]; exact hl)
    have HK : Hid (lowT (gath (rd ts)) = (l, er) ∧ Nn (rd ts) ∧ tot (rd ts) ≤ 4611686018427387904) := ⟨hr, (all_okP hok).1, hM⟩
    clear hok hr hM
    go_enter Tryz.func113, Tryz.ntmps113
    go_wp2_with (go_at_call 173; refine kc.mono ?_; rintro e w1 ⟨rfl, hb1⟩)
    refine (gather_fr B _ ts w1 (Nat.le_trans hB hb1.size) (HP.out.at hB hb1) HK.out.2.1 HK.out.2.2 _ rfl).mono ?_
    rintro e w2 ⟨v2, us, rfl, ho2, hrd, hb2, hfr2⟩
    have hbb : Below w.heap.size w w2 := bt hb1 hb2
    have HFR2 : Hid (Frs w.heap.size us) := hfr2.mono hb1.size
    have kl := lowest_fr w.heap.size v2 us w2 (ho2.mono hb1.size) (by rw [hrd]; exact gath_pos HK.out.2.1) (by rw [hrd, gath_tot]; exact HK.out.2.2) l er (by rw [hrd]; exact HK.out.1)
    obtain ⟨b', o', c', rfl, _⟩ := ho2
    clear kc hb2 hfr2
    go_wp2_with fail
    refine kl.mono ?_
    rintro e w3 ⟨v3, us3, rfl, hrd3, ho3, hb3, hsub⟩
    obtain ⟨a3, c3, rfl⟩ := ho3.slice
    have HO3 : Hid (OwnN w3 w.heap.size (.slice a3 us3.length c3) us3) := ho3
    have HR3 : Hid (rd us3 = l) := hrd3
    have HFR : Hid (Frs w.heap.size us3) := HFR2.out.of hsub
    clear ho3 hrd3 hrd kl hsub
    go_wp2
    exact bodyPost_ret (v := .tuple #[.slice a3 us3.length c3, .int .i64 er]) (by simp [results, Tryz.results113, go_sem]) rfl ⟨_, us3, rfl, HR3.out, HO3.out, hbb.trans hb3, HFR.out⟩
theorem make_any (B : Nat) (v : Value) (ts : List Tr) (w : World) (hB : B ≤ w.heap.size) (hp : Parts w B v ts) (l : List Pt) (er : Int) (hr : makeT (rd ts) = (l, er)) :
    Calls Tryz.prog 113 #[v] w fun e w' => ∃ v' us, e = .returned (.tuple #[v', .int .i64 er]) ∧ rd us = l ∧ OwnN w' w.heap.size v' us ∧ Below w.heap.size w w' :=
  (make_fr B v ts w hB hp l er hr).mono fun _ _ ⟨v', us, h1, h2, h3, h4, _⟩ => ⟨v', us, h1, h2, h3, h4⟩
end Go.Proofs.YtlndlpjadajelaaGreat

namespace Go.Proofs.YtlndlpjadajelaaGreat
open Go.RowKit Go.Proofs.YtlndlpjadajelaaGreat.Ds

theorem take_next {α : Type} {l k : List α} {i : Nat} {x : α} (h : l.take i = k.take i) (hl : l[i]? = some x) (hk : k[i]? = some x) : l.take (i + 1) = k.take (i + 1) := by
  rw [List.take_add_one, List.take_add_one, h, hl, hk]

set_option maxHeartbeats 1000000 in
theorem equal_any (B : Nat) (u v : Value) (ts us : List Tr) (w : World) (hB : B ≤ w.heap.size) (hp : Parts w B u ts) (hq : Parts w B v us) (r : Bool) (hr : decide (rd ts = rd us) = r) :
    Calls Tryz.prog 148 #[u, v, .func (.func 149) #[] #[]] w fun e w' => e = .returned (.bool r) ∧ Below w.heap.size w w' := by
  have HP : Hid (Parts w B u ts) := hp
  have HQ : Hid (Parts w B v us) := hq
  have HR : Hid (decide (rd ts = rd us) = r) := hr
  obtain ⟨a, c, rfl, hc, hl, _⟩ := hp
  obtain ⟨a2, c2, rfl, hc2, hl2, _⟩ := hq
  clear hr
  by_cases hlen : ts.length = us.length
  · have hle : (((ts.length : Int)) == (us.length : Int)) = true := by simp [hlen]
    have hle2 : (((ts.length : Int)) != (us.length : Int)) = false := by simp [hlen]
    have HLN : Hid (ts.length = us.length) := hlen
    clear hlen
    go_enter Tryz.func148, Tryz.ntmps148
    go_wp2
    go_loopw [17] (fun s wr => ∃ i : Nat, s = .int .i64 (i : Int) ∧ i ≤ ts.length ∧ (rd ts).take i = (rd us).take i ∧ Below w.heap.size w wr) (fun s _ => ts.length - (intOf s).toNat)
    case atStart => exact ⟨0, rfl, Nat.zero_le _, by simp, Below.refl _ _⟩
    case round =>
      obtain ⟨i, rfl, hit, htk, hbl⟩ := hrel
      have HT : Hid ((rd ts).take i = (rd us).take i) := htk
      clear htk
      by_cases h1 : i < ts.length
      · obtain ⟨b, o, sa, sc, xs, k, rfl, hb, hs, c1, c2', hI⟩ := HP.out.get hB hbl h1
        obtain ⟨b2, o2, sa2, sc2, xs2, k2, rfl, hb2, hs2, d1, d2, hI2⟩ := HQ.out.get hB hbl (i := i) (by have := HLN.out; omega)
        have HS : Hid ((rd ts)[i]? = some (xs, k)) := rd_get hs
        have HS2 : Hid ((rd us)[i]? = some (xs2, k2)) := rd_get hs2
        have HI : Hid (Ints wr B B (.slice sa xs.length sc) xs) := hI
        have HI2 : Hid (Ints wr B B (.slice sa2 xs2.length sc2) xs2) := hI2
        have hs1 := hbl.size
        have z1 : (i : Int) < (us.length : Int) := by have := HLN.out; omega
        have n1 : b < wr.heap.size := by omega
        have n2 : b2 < wr.heap.size := by omega
        clear hs hs2 hI hI2
        by_cases he : k = k2 ∧ xs = xs2
        · have hd : Hid (decide (k = k2 ∧ xs = xs2) = true) := decide_eq_true he
          have HE : Hid ((xs2, k2) = (xs, k)) := by rw [Hid, he.1, he.2]
          clear he
          go_wp2_with (go_at_call 149; refine (same_any B B B _ _ _ _ xs xs2 _ ?_ ?_ ?_ _ hd.out).mono ?_; (simp; omega); (exact HI.out.at (by omega) (bal (ba _ _) _)); (exact HI2.out.at (by omega) (bal (ba _ _) _)); rintro e w1 ⟨rfl, hb1⟩)
          go_roundw
          case rel => exact ⟨i + 1, by go_num, h1, take_next HT.out HS.out (by rw [HS2.out, HE.out]), bt (bal (bal hbl _) _) hb1⟩
          case measure => simp [intOf]; omega
        · have hd : Hid (decide (k = k2 ∧ xs = xs2) = false) := decide_eq_false he
          have hr1 : r = false := by
            rw [← HR.out]
            refine decide_eq_false fun h => he ?_
            have h2 := HS.out
            rw [h, HS2.out] at h2
            simp only [Option.some.injEq, Prod.mk.injEq] at h2
            exact ⟨h2.2.symm, h2.1.symm⟩
          subst hr1
          clear he
          go_wp2_with (go_at_call 149; refine (same_any B B B _ _ _ _ xs xs2 _ ?_ ?_ ?_ _ hd.out).mono ?_; (simp; omega); (exact HI.out.at (by omega) (bal (ba _ _) _)); (exact HI2.out.at (by omega) (bal (ba _ _) _)); rintro e w1 ⟨rfl, hb1⟩)
          go_ret
          exact ⟨rfl, bt (bal (bal hbl _) _) hb1⟩
      · have hr1 : r = true := by
          rw [← HR.out]
          refine decide_eq_true ?_
          have := HT.out
          rwa [rd_take_all (by omega), rd_take_all (by have := HLN.out; omega)] at this
        subst hr1
        go_wp2
        go_ret
        exact ⟨rfl, hbl⟩
  · have hle : (((ts.length : Int)) == (us.length : Int)) = false := by simp; omega
    have hle2 : (((ts.length : Int)) != (us.length : Int)) = true := by simp; omega
    have hr1 : r = false := by
      rw [← HR.out]
      refine decide_eq_false fun h => hlen ?_
      rw [← rd_len, h, rd_len]
    subst hr1
    go_enter Tryz.func148, Tryz.ntmps148
    go_wp2
    go_ret
    exact ⟨rfl, Below.refl _ _⟩

/-- own -/
def ownT (l : List Pt) : List Pt × Int := if (makeT l).2 = 0 then if (makeT l).1 = l then (l, 0) else ([], 2) else ([], (makeT l).2)

theorem lowT_err (l : List Pt) : (lowT l).2 = 0 ∨ (lowT l).1 = [] := by
  unfold lowT; split
  · exact .inr rfl
  · split
    · exact .inr rfl
    · exact .inl rfl
theorem makeT_err (l : List Pt) : (makeT l).2 = 0 ∨ (makeT l).1 = [] := by
  unfold makeT; split
  · exact lowT_err _
  · exact .inr rfl

set_option maxHeartbeats 1000000 in
theorem own_fr (B : Nat) (v : Value) (ts : List Tr) (w : World) (hB : B ≤ w.heap.size) (hp : Parts w B v ts) (l : List Pt) (er : Int) (hr : ownT (rd ts) = (l, er)) :
    Calls Tryz.prog 86 #[v] w fun e w' => ∃ v' us, e = .returned (.tuple #[v', .int .i64 er]) ∧ rd us = l ∧ OwnN w' w.heap.size v' us ∧ Below w.heap.size w w' ∧ Frs w.heap.size us := by
  have HP : Hid (Parts w B v ts) := hp
  obtain ⟨a, c, rfl, hc, hl, _⟩ := hp
  obtain ⟨⟨m, e1⟩, hm⟩ : ∃ m, makeT (rd ts) = m := ⟨_, rfl⟩
  have kc := make_fr B _ ts w hB HP.out m e1 hm
  have hme := makeT_err (rd ts)
  rw [ownT, hm] at hr
  rw [hm] at hme
  simp only at hr hme
  have HR : Hid ((if e1 = 0 then if m = rd ts then (rd ts, 0) else ([], 2) else ([], e1)) = (l, er) ∧ (e1 = 0 ∨ m = [])) := ⟨hr, hme⟩
  clear hr hme hm
  go_enter Tryz.func86, Tryz.ntmps86
  go_wp2_with fail
  refine kc.mono ?_
  rintro e w1 ⟨v1, us, rfl, hrd, ho, hb1, hfr⟩
  have HFR : Hid (Frs w.heap.size us) := hfr
  clear hfr
  have HO : Hid (OwnN w1 w.heap.size v1 us) := ho
  have HD : Hid (rd us = m) := hrd
  obtain ⟨a1, c1, rfl⟩ := ho.slice
  clear ho hrd kc
  by_cases h0 : e1 = 0
  · subst h0
    have hP1 : Parts w1 w1.heap.size (.slice a ts.length c) ts := (HP.out.at hB hb1).mono (Nat.le_trans hB hb1.size)
    by_cases h2 : m = rd ts
    · have h3 := HR.out.1
      rw [if_pos rfl, if_pos h2] at h3
      simp only [Prod.mk.injEq] at h3
      obtain ⟨h3, rfl⟩ := h3
      have HL : Hid (rd us = l) := by rw [Hid, HD.out, h2, h3]
      have ke := equal_any w1.heap.size _ _ ts us w1 (Nat.le_refl _) hP1 HO.out.parts true (decide_eq_true (by rw [HD.out, h2]))
      clear h2 h3 hP1
      go_wp2_with fail
      refine ke.mono ?_
      rintro e w2 ⟨rfl, hb2⟩
      clear ke
      go_wp2
      exact bodyPost_ret (v := .tuple #[.slice a1 us.length c1, .int .i64 0]) (by simp [results, Tryz.results86, go_sem]) rfl ⟨_, us, rfl, HL.out, HO.out.keep hb2, bt hb1 hb2, HFR.out⟩
    · have h3 := HR.out.1
      rw [if_pos rfl, if_neg h2] at h3
      simp only [Prod.mk.injEq] at h3
      obtain ⟨rfl, rfl⟩ := h3
      have ke := equal_any w1.heap.size _ _ ts us w1 (Nat.le_refl _) hP1 HO.out.parts false (decide_eq_false (by rw [HD.out]; exact fun h => h2 h.symm))
      clear h2 hP1
      go_wp2_with fail
      refine ke.mono ?_
      rintro e w2 ⟨rfl, hb2⟩
      clear ke
      go_wp2
      exact bodyPost_ret (v := .tuple #[.slice none 0 0, .int .i64 2]) (by simp [results, Tryz.results86, go_sem]) rfl ⟨_, [], rfl, rfl, .inl ⟨rfl, rfl⟩, bt hb1 hb2, Frs.nil _⟩
  · have h3 := HR.out.1
    have h4 := HR.out.2
    rw [if_neg h0] at h3
    simp only [Prod.mk.injEq] at h3
    obtain ⟨rfl, rfl⟩ := h3
    have HL : Hid (rd us = []) := by
      rcases h4 with h | h
      · exact absurd h h0
      · rw [Hid, HD.out, h]
    have h0' : (e1 == 0) = false := by simpa using h0
    clear h4
    go_wp2
    exact bodyPost_ret (v := .tuple #[.slice a1 us.length c1, .int .i64 e1]) (by simp [results, Tryz.results86, go_sem]) rfl ⟨_, us, rfl, HL.out, HO.out, hb1, HFR.out⟩

theorem own_any (B : Nat) (v : Value) (ts : List Tr) (w : World) (hB : B ≤ w.heap.size) (hp : Parts w B v ts) (l : List Pt) (er : Int) (hr : ownT (rd ts) = (l, er)) :
    Calls Tryz.prog 86 #[v] w fun e w' => ∃ v' us, e = .returned (.tuple #[v', .int .i64 er]) ∧ rd us = l ∧ OwnN w' w.heap.size v' us ∧ Below w.heap.size w w' :=
  (own_fr B v ts w hB hp l er hr).mono fun _ _ ⟨v', us, h1, h2, h3, h4, _⟩ => ⟨v', us, h1, h2, h3, h4⟩

theorem parts_one (w : World) (B nb : Nat) (v : Value) (xs : List Int) (k : Int) (hB : B ≤ w.heap.size) (h : Ints w B nb v xs) :
    Parts (w.alloc (.cells #[v, .int .i64 k] 82)) (w.heap.size + 1) (.slice (some ⟨w.heap.size, 0, none⟩) 1 1) [(v, xs, k)] := by
  refine ⟨_, 1, rfl, by simp, by simp, fun t ht => ?_, fun _ => ⟨w.heap.size, 0, rfl, by omega, fun i t hi => ?_⟩⟩
  · simp at ht; subst ht
    exact (h.at hB (ba _ _)).mono (by omega) (.inr (by omega))
  · match i, hi with
    | 0, hi =>
      simp at hi; subst hi
      exact ⟨by simp [go_sem], by simp [go_sem]⟩

set_option maxHeartbeats 1000000 in
theorem sure_any (B nb : Nat) (v : Value) (xs : List Int) (w : World) (hB : B ≤ w.heap.size) (hp : Ints w B nb v xs) (l : List Pt) (er : Int) (hr : makeT [(xs, 1)] = (l, er)) :
    Calls Tryz.prog 81 #[v] w fun e w' => ∃ v' us, e = .returned (.tuple #[v', .int .i64 er]) ∧ rd us = l ∧ OwnN w' w.heap.size v' us ∧ Below w.heap.size w w' := by
  have kc := make_any (w.heap.size + 1) _ _ _ (by simp) (parts_one w B nb v xs 1 hB hp) l er hr
  obtain ⟨a, c, rfl, hc, hl, _⟩ := hp
  clear hr
  go_enter Tryz.func81, Tryz.ntmps81
  go_wp2_with fail
  refine kc.mono ?_
  rintro e w1 ⟨v1, us, rfl, hrd, ho, hb1⟩
  have HO : Hid (OwnN w1 w.heap.size v1 us) := ho.mono (by simp)
  have HD : Hid (rd us = l) := hrd
  obtain ⟨a1, c1, rfl⟩ := ho.slice
  clear ho hrd kc
  go_wp2
  exact bodyPost_ret (v := .tuple #[.slice a1 us.length c1, .int .i64 er]) (by simp [results, Tryz.results81, go_sem]) rfl ⟨_, us, rfl, HD.out, HO.out, bt (ba _ _) hb1⟩
end Go.Proofs.YtlndlpjadajelaaGreat

namespace Go.Proofs.YtlndlpjadajelaaGreat
open Go.RowKit

/-- The value of what is told. -/
abbrev rv (n m : Int) : Value := .agg #[.int .i64 n, .int .i64 m]

set_option maxHeartbeats 400000 in
theorem rmake_any (u d n m e : Int) (hu : u ≤ 9223372036854775807) (hd : d ≤ 9223372036854775807) (h : Rt.mkT u d = (n, m, e)) (w : World) :
    Calls Tryz.prog 41 #[.int .i64 u, .int .i64 d] w fun x w' => x = .returned (.tuple #[rv n m, .int .i64 e]) ∧ Below w.heap.size w w' := by
  have H : Hid (Rt.mkT u d = (n, m, e)) := h
  clear h
  by_cases c1 : u < 0
  · have hr : (0, 0, 3) = (n, m, e) := by rw [← H.out]; unfold Rt.mkT; rw [if_pos (.inl c1)]
    simp only [Prod.mk.injEq] at hr
    obtain ⟨rfl, rfl, rfl⟩ := hr
    go_enter Tryz.func41, Tryz.ntmps41
    go_wp2
    exact bodyPost_ret (v := .tuple #[rv 0 0, .int .i64 3]) (by simp [results, Tryz.results41, go_sem]) rfl ⟨rfl, ba _ _⟩
  by_cases c2 : d < 1
  · have hr : (0, 0, 3) = (n, m, e) := by rw [← H.out]; unfold Rt.mkT; rw [if_pos (.inr c2)]
    simp only [Prod.mk.injEq] at hr
    obtain ⟨rfl, rfl, rfl⟩ := hr
    go_enter Tryz.func41, Tryz.ntmps41
    go_wp2
    exact bodyPost_ret (v := .tuple #[rv 0 0, .int .i64 3]) (by simp [results, Tryz.results41, go_sem]) rfl ⟨rfl, ba _ _⟩
  have hm := Rt.mkT_of u d n m e (by omega) (by omega) H.out
  clear H
  obtain ⟨x, rfl⟩ := Int.eq_ofNat_of_zero_le (show 0 ≤ u by omega)
  obtain ⟨y, rfl⟩ := Int.eq_ofNat_of_zero_le (show 0 ≤ d by omega)
  rw [show Int.gcd (x : Int) (y : Int) = Nat.gcd x y from rfl] at hm
  have hg1 : 1 ≤ Nat.gcd x y := Nat.gcd_pos_of_pos_right _ (by omega)
  have hg2 : Nat.gcd x y ≤ y := Nat.gcd_le_right _ (by omega)
  have q1 : 0 ≤ (x : Int) / (Nat.gcd x y : Nat) := Int.ediv_nonneg (by omega) (by omega)
  have q2 : 0 ≤ (y : Int) / (Nat.gcd x y : Nat) := Int.ediv_nonneg (by omega) (by omega)
  have q3 : (x : Int) / (Nat.gcd x y : Nat) ≤ 9223372036854775807 := Int.le_trans (Int.ediv_le_self _ (by omega)) hu
  have q4 : (y : Int) / (Nat.gcd x y : Nat) ≤ 9223372036854775807 := Int.le_trans (Int.ediv_le_self _ (by omega)) hd
  rcases hm with ⟨hc, rfl, rfl, rfl⟩ | ⟨hc1, hc2, rfl, rfl, rfl⟩
  · have hc' : 1073741824 < (x : Int) / (Nat.gcd x y : Nat) ∨ ((x : Int) / (Nat.gcd x y : Nat) ≤ 1073741824 ∧ 1073741824 < (y : Int) / (Nat.gcd x y : Nat)) := by omega
    clear hc
    rcases hc' with hc1 | ⟨hc1, hc2⟩
    all_goals
      go_enter Tryz.func41, Tryz.ntmps41
      go_wp2_with (go_at_call 90; refine (divisor_any _ _ (by omega) (by omega) _).mono ?_; rintro e w' ⟨rfl, hbl⟩)
      obtain ⟨hcell, hfroz⟩ := bcell hbl
      generalize Nat.gcd x y = g at *
      have hz : w.heap.size < w'.heap.size := by have := hbl.size; simp at this; omega
      go_region
      go_wp2
      exact bodyPost_ret (v := .tuple #[rv 0 0, .int .i64 4]) (by simp [results, Tryz.results41, go_sem, hcell, hz]) rfl ⟨rfl, (bal (bs (bs (bt (ba _ _) hbl) (Nat.le_refl _) _) (Nat.le_refl _) _) _).drew⟩
  · go_enter Tryz.func41, Tryz.ntmps41
    go_wp2_with (go_at_call 90; refine (divisor_any _ _ (by omega) (by omega) _).mono ?_; rintro e w' ⟨rfl, hbl⟩)
    obtain ⟨hcell, hfroz⟩ := bcell hbl
    have hz : w.heap.size < w'.heap.size := by have := hbl.size; simp at this; omega
    go_region
    go_wp2
    exact bodyPost_ret (v := .tuple #[rv (x / (Nat.gcd x y : Nat)) (y / (Nat.gcd x y : Nat)), .int .i64 0]) (by simp [results, Tryz.results41, go_sem, hcell, hz]) rfl ⟨rfl, (bal (bs (bs (bt (ba _ _) hbl) (Nat.le_refl _) _) (Nat.le_refl _) _) _).drew⟩
end Go.Proofs.YtlndlpjadajelaaGreat

namespace Go.Proofs.YtlndlpjadajelaaGreat
open Go.RowKit Go.Proofs.YtlndlpjadajelaaGreat.Ds

/-- below i all are less than y, from j on none -/
def Cutp (l : List Pt) (y : List Int) (i j : Nat) : Prop := (∀ q p, q < i → l[q]? = some p → ltL p.1 y) ∧ (∀ q p, j ≤ q → l[q]? = some p → ¬ ltL p.1 y)

theorem rise_get {l : List Pt} (h : Rise l) {i j : Nat} {p q : Pt} (hij : i < j) (hi : l[i]? = some p) (hj : l[j]? = some q) : ltL p.1 q.1 := by
  obtain ⟨h1, rfl⟩ := List.getElem?_eq_some_iff.1 hi
  obtain ⟨h2, rfl⟩ := List.getElem?_eq_some_iff.1 hj
  exact List.pairwise_iff_getElem.1 h i j h1 h2 hij

theorem Cutp.up {l : List Pt} {y : List Int} {i j h : Nat} {p : Pt} (c : Cutp l y i j) (hr : Rise l) (hp : l[h]? = some p) (hlt : ltL p.1 y) : Cutp l y (h + 1) j := by
  refine ⟨fun q r hq hr2 => ?_, c.2⟩
  by_cases hqh : q = h
  · subst hqh; rw [hp] at hr2; simp at hr2; subst hr2; exact hlt
  · exact ltL_trans (rise_get hr (by omega) hr2 hp) hlt

theorem Cutp.down {l : List Pt} {y : List Int} {i j h : Nat} {p : Pt} (c : Cutp l y i j) (hr : Rise l) (hp : l[h]? = some p) (hge : ¬ ltL p.1 y) : Cutp l y i h := by
  refine ⟨c.1, fun q r hq hr2 hlt => ?_⟩
  by_cases hqh : q = h
  · subst hqh; rw [hp] at hr2; simp at hr2; subst hr2; exact hge hlt
  · exact hge (ltL_trans (rise_get hr (by omega) hp hr2) hlt)

/-- what stands at i, or none -/
theorem Cutp.none {l : List Pt} {y : List Int} {i : Nat} (c : Cutp l y i i) (hr : Rise l) (h : ∀ p, l[i]? = some p → p.1 ≠ y) : ∀ p ∈ l, p.1 ≠ y := by
  intro p hp he
  obtain ⟨q, hq, rfl⟩ := List.mem_iff_getElem.1 hp
  have hq2 : l[q]? = some l[q] := List.getElem?_eq_getElem hq
  rcases Nat.lt_trichotomy q i with h1 | h1 | h1
  · have := c.1 q _ h1 hq2; rw [he] at this; exact ltL_irrefl _ this
  · subst h1; exact h _ hq2 he
  · obtain ⟨r, hr2⟩ := get_lt (l := l) (i := i) (by omega)
    have h2 := rise_get hr h1 hr2 hq2
    rw [he] at h2
    exact c.2 i r (Nat.le_refl _) hr2 h2

end Go.Proofs.YtlndlpjadajelaaGreat
