import Derived.Test.YtfcbkcoagoncoaaQf11
namespace Go.Proofs.Ytfcbkcoagoncoaa
open Go.RowKit Go.Proofs.Ytfcbkcoagoncoaa.Ds

/-- no weight below 0 -/
def Nn (l : List Pt) : Prop := ∀ p ∈ l, 0 ≤ p.2

theorem tot_take {l : List Pt} {i : Nat} {p : Pt} (h : l[i]? = some p) : tot (l.take (i + 1)) = tot (l.take i) + p.2 := by
  rw [List.take_add_one, h, tot_append]; simp [tot_cons]
theorem wt_take {l : List Pt} {i : Nat} {p : Pt} (h : l[i]? = some p) (o : List Int) : wt (l.take (i + 1)) o = wt (l.take i) o + if p.1 = o then p.2 else 0 := by
  rw [List.take_add_one, h, wt_append]; simp [wt_cons]
theorem Nn.tot_nn {l : List Pt} (h : Nn l) : 0 ≤ tot l := by
  induction l with
  | nil => simp
  | cons p l ih => have := ih fun q hq => h q (by simp [hq]); have := h p (by simp); rw [tot_cons]; omega
theorem Nn.take {l : List Pt} (h : Nn l) (i : Nat) : Nn (l.take i) := fun p hp => h p (List.mem_of_mem_take hp)
theorem Nn.drop {l : List Pt} (h : Nn l) (i : Nat) : Nn (l.drop i) := fun p hp => h p (List.mem_of_mem_drop hp)
theorem Nn.tot_take_le {l : List Pt} (h : Nn l) (i : Nat) : 0 ≤ tot (l.take i) ∧ tot (l.take i) ≤ tot l := by
  have h1 := (h.take i).tot_nn
  have h2 := (h.drop i).tot_nn
  have h3 : tot l = tot (l.take i) + tot (l.drop i) := by rw [← tot_append, List.take_append_drop]
  omega
theorem Nn.wt_le {l : List Pt} (h : Nn l) (o : List Int) : 0 ≤ wt l o ∧ wt l o ≤ tot l := by
  induction l with
  | nil => simp
  | cons p l ih =>
    have := ih fun q hq => h q (by simp [hq])
    have := h p (by simp)
    rw [wt_cons, tot_cons]
    split <;> omega
theorem Nn.of_pos {l : List Pt} (h : Pos l) : Nn l := fun p hp => Int.le_of_lt (h p hp)

theorem rd_get {ts : List Tr} {i : Nat} {t : Tr} (h : ts[i]? = some t) : (rd ts)[i]? = some t.2 := by
  simp [rd, h]

/-- the i-th part's cells, in a later world -/
theorem Cells.get {w w' : World} {b o : Nat} {ts : List Tr} (h : Cells w b o ts) (hb : Below w.heap.size w w') (hB : b < w.heap.size) {i : Nat} {t : Tr} (ht : ts[i]? = some t) :
    w'.cell? ⟨b, o + i * 2, none⟩ = some t.1 ∧ w'.cell? ⟨b, o + i * 2 + 1, none⟩ = some (.int .i64 t.2.2) := h.keep hb hB i t ht

/-- the i-th part, in a later world -/
theorem Parts.get {w wr : World} {B : Nat} {a : Option Addr} {n c : Nat} {ts : List Tr} (hp : Parts w B (.slice a n c) ts) (hB : B ≤ w.heap.size) (hbl : Below w.heap.size w wr) {i : Nat} (h : i < ts.length) :
    ∃ b o sa sc xs k, a = some ⟨b, o, none⟩ ∧ b < w.heap.size ∧ ts[i]? = some (.slice sa xs.length sc, xs, k) ∧ wr.cell? ⟨b, o + i * 2, none⟩ = some (.slice sa xs.length sc) ∧ wr.cell? ⟨b, o + i * 2 + 1, none⟩ = some (.int .i64 k) ∧ Ints wr B B (.slice sa xs.length sc) xs := by
  obtain ⟨a', c', hv, hc, hl, hi, hx⟩ := hp
  simp only [Value.slice.injEq] at hv
  obtain ⟨rfl, rfl, rfl⟩ := hv
  obtain ⟨b, o, ha, hb, hcell⟩ := hx (ne_of_lt h)
  obtain ⟨⟨s, xs, k⟩, hs⟩ := get_lt h
  have hI := hi _ (List.mem_of_getElem? hs)
  have hI2 := hI.at hB hbl
  obtain ⟨sa, sc, he, _⟩ := hI
  simp only at he
  subst he
  obtain ⟨c1, c2⟩ := hcell.get hbl (by omega) hs
  exact ⟨b, o, sa, sc, xs, k, ha, by omega, hs, c1, c2, hI2⟩

theorem rd_len (ts : List Tr) : (rd ts).length = ts.length := by simp [rd]
theorem rd_take_all {ts : List Tr} {i : Nat} (h : i = ts.length) : (rd ts).take i = rd ts := by rw [h, ← rd_len, List.take_length]

set_option maxHeartbeats 400000 in
theorem total_any (B : Nat) (v : Value) (ts : List Tr) (w : World) (hB : B ≤ w.heap.size) (hp : Parts w B v ts) (hn : Nn (rd ts)) (ht : tot (rd ts) ≤ 4611686018427387904) (r : Int) (hr : tot (rd ts) = r) :
    Calls Try.prog 29 #[v] w fun e w' => e = .returned (.int .i64 r) ∧ Below w.heap.size w w' := by
  have HP : Hid (Parts w B v ts) := hp
  obtain ⟨a, c, rfl, hc, hl, _⟩ := hp
  have HT : Hid (tot (rd ts) ≤ 4611686018427387904 ∧ tot (rd ts) = r ∧ Nn (rd ts)) := ⟨ht, hr, hn⟩
  clear hn ht hr
  go_enter Try.func29, Try.ntmps29
  go_wp2
  go_loopw [3, 8] (fun s u wr => ∃ (i : Nat) (z : Int), s = .int .i64 z ∧ u = .int .i64 (i : Int) ∧ i ≤ ts.length ∧ tot ((rd ts).take i) = z ∧ Below w.heap.size w wr) (fun _ u _ => ts.length - (intOf u).toNat)
  case atStart => exact ⟨0, 0, rfl, rfl, Nat.zero_le _, by simp, Below.refl _ _⟩
  case round =>
    obtain ⟨i, z, rfl, rfl, hit, hz, hbl⟩ := hrel
    by_cases h1 : i < ts.length
    · obtain ⟨b, o, sa, sc, xs, k, rfl, hb, hs, c1, c2, _⟩ := HP.out.get hB hbl h1
      have e1 := tot_take (rd_get hs)
      have e2 := HT.out.2.2.tot_take_le (i + 1)
      have e3 := HT.out.1
      have hz2 : -4611686018427387904 ≤ z + k ∧ z + k ≤ 4611686018427387904 := by simp only at e1; omega
      have HZ : Hid (tot ((rd ts).take (i + 1)) = z + k) := by rw [Hid, e1, hz]
      clear e1 e2 e3 hz hs
      have hs1 := hbl.size
      go_wp2
      go_roundw
      case rel => exact ⟨i + 1, z + k, by go_num, by go_num, h1, HZ.out, bal hbl _⟩
      case measure => simp [intOf]; omega
    · have hz2 : z = r := by rw [← hz, ← HT.out.2.1, rd_take_all (by omega)]
      subst hz2
      clear hz HT
      go_wp2
      go_ret
      exact ⟨rfl, hbl⟩

set_option maxHeartbeats 400000 in
theorem refTotal_any (B : Nat) (v : Value) (ts : List Tr) (w : World) (hB : B ≤ w.heap.size) (hp : Parts w B v ts) (hn : Nn (rd ts)) (ht : tot (rd ts) ≤ 4611686018427387904) (r : Int) (hr : tot (rd ts) = r) :
    Calls Try.prog 13 #[v] w fun e w' => e = .returned (.int .i64 r) ∧ Below w.heap.size w w' := by
  have HP : Hid (Parts w B v ts) := hp
  obtain ⟨a, c, rfl, hc, hl, _⟩ := hp
  have HT : Hid (tot (rd ts) ≤ 4611686018427387904 ∧ tot (rd ts) = r ∧ Nn (rd ts)) := ⟨ht, hr, hn⟩
  clear hn ht hr
  go_enter Try.func13, Try.ntmps13
  go_wp2
  go_loopw [3, 8] (fun s u wr => ∃ (i : Nat) (z : Int), s = .int .i64 z ∧ u = .int .i64 (i : Int) ∧ i ≤ ts.length ∧ tot ((rd ts).take i) = z ∧ Below w.heap.size w wr) (fun _ u _ => ts.length - (intOf u).toNat)
  case atStart => exact ⟨0, 0, rfl, rfl, Nat.zero_le _, by simp, Below.refl _ _⟩
  case round =>
    obtain ⟨i, z, rfl, rfl, hit, hz, hbl⟩ := hrel
    by_cases h1 : i < ts.length
    · obtain ⟨b, o, sa, sc, xs, k, rfl, hb, hs, c1, c2, _⟩ := HP.out.get hB hbl h1
      have e1 := tot_take (rd_get hs)
      have e2 := HT.out.2.2.tot_take_le (i + 1)
      have e3 := HT.out.1
      have hz2 : -4611686018427387904 ≤ z + k ∧ z + k ≤ 4611686018427387904 := by simp only at e1; omega
      have HZ : Hid (tot ((rd ts).take (i + 1)) = z + k) := by rw [Hid, e1, hz]
      clear e1 e2 e3 hz hs
      have hs1 := hbl.size
      go_wp2
      go_roundw
      case rel => exact ⟨i + 1, z + k, by go_num, by go_num, h1, HZ.out, bal hbl _⟩
      case measure => simp [intOf]; omega
    · have hz2 : z = r := by rw [← hz, ← HT.out.2.1, rd_take_all (by omega)]
      subst hz2
      clear hz HT
      go_wp2
      go_ret
      exact ⟨rfl, hbl⟩

set_option maxHeartbeats 400000 in
theorem weight_any (B nb : Nat) (v u : Value) (ts : List Tr) (x : List Int) (w : World) (hB : B ≤ w.heap.size) (hp : Parts w B v ts) (hu : Ints w B nb u x) (hn : Nn (rd ts)) (ht : tot (rd ts) ≤ 4611686018427387904) (r : Int) (hr : wt (rd ts) x = r) :
    Calls Try.prog 54 #[v, u] w fun e w' => e = .returned (.int .i64 r) ∧ Below w.heap.size w w' := by
  have HP : Hid (Parts w B v ts) := hp
  have HU : Hid (Ints w B nb u x) := hu
  obtain ⟨a, c, rfl, hc, hl, _⟩ := hp
  obtain ⟨ua, uc, rfl, _⟩ := hu
  have HT : Hid (tot (rd ts) ≤ 4611686018427387904 ∧ wt (rd ts) x = r ∧ Nn (rd ts)) := ⟨ht, hr, hn⟩
  clear hn ht hr
  go_enter Try.func54, Try.ntmps54
  go_wp2
  go_loopw [5, 10] (fun s u wr => ∃ (i : Nat) (z : Int), s = .int .i64 z ∧ u = .int .i64 (i : Int) ∧ i ≤ ts.length ∧ wt ((rd ts).take i) x = z ∧ Below w.heap.size w wr) (fun _ u _ => ts.length - (intOf u).toNat)
  case atStart => exact ⟨0, 0, rfl, rfl, Nat.zero_le _, by simp, Below.refl _ _⟩
  case round =>
    obtain ⟨i, z, rfl, rfl, hit, hz, hbl⟩ := hrel
    by_cases h1 : i < ts.length
    · obtain ⟨b, o, sa, sc, xs, k, rfl, hb, hs, c1, c2, hI⟩ := HP.out.get hB hbl h1
      have e1 := wt_take (rd_get hs) x
      have e2 := (HT.out.2.2.take (i + 1)).wt_le x
      have e3 := HT.out.1
      have e4 := (HT.out.2.2.tot_take_le (i + 1)).2
      have HI : Hid (Ints wr B B (.slice sa xs.length sc) xs) := hI
      have HU1 : Hid (Ints wr B nb (.slice ua x.length uc) x) := HU.out.at hB hbl
      have hs1 := hbl.size
      clear hI
      by_cases h2 : xs = x
      · have HC : Hid (cmpT xs x = 0) := (cmpT_zero xs x).2 h2
        simp only [h2, if_true] at e1
        have hz2 : -4611686018427387904 ≤ z + k ∧ z + k ≤ 4611686018427387904 := by omega
        have HZ : Hid (wt ((rd ts).take (i + 1)) x = z + k) := by rw [Hid, e1, hz]
        clear e1 e2 e3 e4 hz hs h2
        go_wp2_with (go_at_call 11; refine (refCompare_any B B nb _ _ xs x _ ?_ ?_ 0 HC.out).mono ?_; exact HI.out.at (by omega) (ba _ _); exact HU1.out.at (by omega) (ba _ _); rintro e w' ⟨rfl, q, rfl⟩)
        go_roundw
        case rel => exact ⟨i + 1, z + k, by go_num, by go_num, h1, HZ.out, below_drewN (bal hbl _) _⟩
        case measure => simp [intOf]; omega
      · obtain ⟨r1, HC⟩ : ∃ r1, Hid (cmpT xs x = r1) := ⟨_, rfl⟩
        have hr1 : (r1 == 0) = false := by
          rw [← HC.out]; simp only [beq_eq_false_iff_ne, ne_eq]; exact fun h => h2 ((cmpT_zero _ _).1 h)
        simp only [h2, if_false] at e1
        have HZ : Hid (wt ((rd ts).take (i + 1)) x = z) := by rw [Hid, e1, hz]; omega
        clear e1 e2 e3 e4 hz hs h2
        go_wp2_with (go_at_call 11; refine (refCompare_any B B nb _ _ xs x _ ?_ ?_ r1 HC.out).mono ?_; exact HI.out.at (by omega) (ba _ _); exact HU1.out.at (by omega) (ba _ _); rintro e w' ⟨rfl, q, rfl⟩)
        go_roundw
        case rel => exact ⟨i + 1, z, rfl, by go_num, h1, HZ.out, below_drewN (bal hbl _) _⟩
        case measure => simp [intOf]; omega
    · have hz2 : z = r := by rw [← hz, ← HT.out.2.1, rd_take_all (by omega)]
      subst hz2
      clear hz HT
      go_wp2
      go_ret
      exact ⟨rfl, hbl⟩

set_option maxHeartbeats 400000 in
theorem small_any (B nb : Nat) (v : Value) (x : List Int) (w : World) (hx : Ints w B nb v x) (r : Bool) (hr : okO x = r) :
    Calls Try.prog 39 #[v] w fun e w' => e = .returned (.bool r) ∧ w' = w := by
  subst hr
  obtain ⟨a, c, rfl, hc, hl, hxx⟩ := hx
  have HX : Hid (x ≠ [] → ∃ b o, a = some ⟨b, o, none⟩ ∧ b < B ∧ b ≠ nb ∧ ∀ i z, x[i]? = some z → w.cell? ⟨b, o + i, none⟩ = some (.int .i64 z)) := hxx
  clear hxx
  unfold okO
  by_cases h3 : 16 < x.length
  · rw [show decide (x.length ≤ 16) = false from decide_eq_false (by omega), Bool.false_and]
    go_enter Try.func39, Try.ntmps39
    go_wp2
    go_ret
    exact ⟨rfl, rfl⟩
  rw [show decide (x.length ≤ 16) = true from decide_eq_true (by omega), Bool.true_and]
  generalize hr : x.all okN = r
  have HR : Hid (x.all okN = r) := hr
  clear hr
  go_enter Try.func39, Try.ntmps39
  go_wp2
  go_loop [10] (fun s => ∃ i : Nat, s = .int .i64 (i : Int) ∧ i ≤ x.length ∧ (x.take i).all okN = true) (fun s => x.length - (intOf s).toNat)
  case atStart => exact ⟨0, rfl, Nat.zero_le _, by simp⟩
  case round =>
    obtain ⟨i, rfl, hix, hall⟩ := hrel
    have HA : Hid ((x.take i).all okN = true) := hall
    clear hall
    by_cases h1 : i < x.length
    · obtain ⟨b, o, rfl, hb, hn, hcell⟩ := HX.out (ne_of_lt h1)
      obtain ⟨z, hz⟩ := get_lt h1
      have cx1 := hcell i z hz
      have HZ : Hid (x[i]? = some z) := hz
      clear hcell HX hz
      by_cases c1 : 1073741824 < z
      · have hr1 : r = false := by rw [← HR.out]; exact all_false HZ.out (by unfold okN; exact decide_eq_false (by omega))
        subst hr1
        go_wp2
        go_ret
        exact ⟨rfl, rfl⟩
      · by_cases c2 : z < -1073741824
        · have hr1 : r = false := by rw [← HR.out]; exact all_false HZ.out (by unfold okN; exact decide_eq_false (by omega))
          subst hr1
          go_wp2
          go_ret
          exact ⟨rfl, rfl⟩
        · have hk : Hid (okN z = true) := by unfold Hid okN; exact decide_eq_true (by omega)
          go_wp2
          go_round
          case rel => exact ⟨i + 1, by go_num, h1, by rw [all_take HZ.out, HA.out, hk.out]; rfl⟩
          case measure => simp [intOf]; omega
    · have hr1 : r = true := by have := HA.out; rw [show i = x.length by omega, List.take_length] at this; rw [← HR.out, this]
      subst hr1
      clear HX
      go_wp2
      go_ret
      exact ⟨rfl, rfl⟩

set_option maxHeartbeats 400000 in
theorem indexP_any (B : Nat) (v : Value) (ts : List Tr) (w : World) (hB : B ≤ w.heap.size) (hp : Parts w B v ts) :
    Calls Try.prog 60 #[v, .func (.func 49) #[] #[]] w fun e w' => ∃ r : Int, e = .returned (.int .i64 r) ∧ (decide (0 ≤ r) = !(rd ts).all okP) ∧ Below w.heap.size w w' := by
  have HP : Hid (Parts w B v ts) := hp
  obtain ⟨a, c, rfl, hc, hl, _⟩ := hp
  go_enter Try.func60, Try.ntmps60
  go_wp2
  go_loopw [8] (fun s wr => ∃ i : Nat, s = .int .i64 (i : Int) ∧ i ≤ ts.length ∧ ((rd ts).take i).all okP = true ∧ Below w.heap.size w wr) (fun s _ => ts.length - (intOf s).toNat)
  case atStart => exact ⟨0, rfl, Nat.zero_le _, by simp, Below.refl _ _⟩
  case round =>
    obtain ⟨i, rfl, hix, hall, hbl⟩ := hrel
    have HA : Hid (((rd ts).take i).all okP = true) := hall
    clear hall
    by_cases h1 : i < ts.length
    · obtain ⟨b, o, sa, sc, xs, k, rfl, hb, hs, c1, c2, hI⟩ := HP.out.get hB hbl h1
      have HZ : Hid ((rd ts)[i]? = some (xs, k)) := rd_get hs
      have hs1 := hbl.size
      clear hs
      cases hk : okP (xs, k) with
      | true =>
        have hk' : Hid (okP (xs, k) = true) := hk
        have kc := beyond_any B B _ k xs wr (by omega) hI _ hk
        clear hk hI
        go_wp2_with (go_at_call 49; refine kc.mono ?_; rintro e w1 ⟨rfl, hb1⟩)
        go_roundw
        case rel => exact ⟨i + 1, by go_num, h1, by rw [all_take HZ.out, HA.out, hk'.out]; rfl, bt hbl hb1⟩
        case measure => simp [intOf]; omega
      | false =>
        have hk' : Hid (okP (xs, k) = false) := hk
        have kc := beyond_any B B _ k xs wr (by omega) hI _ hk
        clear hk hI
        go_wp2_with (go_at_call 49; refine kc.mono ?_; rintro e w1 ⟨rfl, hb1⟩)
        go_ret
        exact ⟨_, rfl, by rw [all_false HZ.out hk'.out]; simp, bt hbl hb1⟩
    · have HA2 : Hid ((rd ts).all okP = true) := by have := HA.out; rwa [rd_take_all (by omega)] at this
      go_wp2
      go_ret
      exact ⟨_, rfl, by rw [HA2.out]; simp, hbl⟩

set_option maxHeartbeats 400000 in
theorem containsP_any (B : Nat) (v : Value) (ts : List Tr) (w : World) (hB : B ≤ w.heap.size) (hp : Parts w B v ts) (r : Bool) (hr : (rd ts).all okP = r) :
    Calls Try.prog 48 #[v, .func (.func 49) #[] #[]] w fun e w' => e = .returned (.bool (!r)) ∧ Below w.heap.size w w' := by
  subst hr
  have HP : Hid (Parts w B v ts) := hp
  obtain ⟨a, c, rfl, _⟩ := hp
  go_enter Try.func48, Try.ntmps48
  go_wp2_with (go_at_call 60; refine (indexP_any B _ ts _ hB HP.out).mono ?_; rintro e w' ⟨r, rfl, hr, hb⟩)
  go_ret
  exact ⟨rfl, hb⟩
end Go.Proofs.Ytfcbkcoagoncoaa
