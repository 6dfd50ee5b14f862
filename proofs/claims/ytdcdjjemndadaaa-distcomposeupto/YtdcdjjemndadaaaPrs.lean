import Derived.Test.YtdcdjjemndadaaaAlv
namespace Go.Proofs.Ytdcdjjemndadaaa
open Go.RowKit Go.Proofs.Ytdcdjjemndadaaa.Ds

/-- as far as one has looked they are the same -/
def Pfx (x y : List Int) (i : Nat) : Prop := x.take i = y.take i
theorem Pfx.step {x y : List Int} {i : Nat} {a : Int} (h : Pfx x y i) (hx : x[i]? = some a) (hy : y[i]? = some a) : Pfx x y (i + 1) := by
  rw [Pfx, take_snoc hx, take_snoc hy, show x.take i = y.take i from h]
theorem Pfx.all {x y : List Int} (h : Pfx x y x.length) (hl : x.length = y.length) : x = y := by
  have := h
  rw [Pfx, List.take_length, hl, List.take_length] at this
  exact this

set_option maxHeartbeats 400000 in
theorem equalI_any (B n1 n2 : Nat) (u v : Value) (x y : List Int) (w : World) (hx : Ints w B n1 u x) (hy : Ints w B n2 v y) (r : Bool) (hr : decide (x = y) = r) :
    Calls Try.prog 71 #[u, v] w fun e w' => e = .returned (.bool r) ∧ ∃ q, w' = w.drewN q := by
  obtain ⟨ax, cx, rfl, hcx, hlx, hxx⟩ := hx
  obtain ⟨ay, cy, rfl, hcy, hly, hyy⟩ := hy
  have HX : Hid (x ≠ [] → ∃ b o, ax = some ⟨b, o, none⟩ ∧ b < B ∧ b ≠ n1 ∧ ∀ i z, x[i]? = some z → w.cell? ⟨b, o + i, none⟩ = some (.int .i64 z)) := hxx
  have HY : Hid (y ≠ [] → ∃ b o, ay = some ⟨b, o, none⟩ ∧ b < B ∧ b ≠ n2 ∧ ∀ i z, y[i]? = some z → w.cell? ⟨b, o + i, none⟩ = some (.int .i64 z)) := hyy
  have HR : Hid (decide (x = y) = r) := hr
  clear hxx hyy hr
  by_cases hl : x.length = y.length
  · obtain ⟨n, hn⟩ : ∃ n, y.length = n := ⟨_, rfl⟩
    have HL : Hid (x.length = n ∧ y.length = n) := ⟨by omega, hn⟩
    have hn1 : n ≤ 1073741824 := by omega
    rw [hl, hn]
    clear hl hn hcx hcy
    go_enter Try.func71, Try.ntmps71
    go_wp2
    go_loopw [5, 13] (fun _ s wr => ∃ i : Nat, s = .int .i64 (i : Int) ∧ i ≤ n ∧ Hid (Pfx x y i) ∧ ∃ q, wr = w.drewN q) (fun _ s _ => n - (intOf s).toNat)
    case atStart => exact ⟨0, rfl, Nat.zero_le _, by simp [Hid, Pfx], 0, rfl⟩
    case round =>
      obtain ⟨i, rfl, hix, HC, q, rfl⟩ := hrel
      by_cases h1 : i < n
      · have h1x : i < x.length := by have := HL.out.1; omega
        have h1y : i < y.length := by have := HL.out.2; omega
        obtain ⟨bx, ox, rfl, hbx, hnx, hcx⟩ := HX.out (ne_of_lt h1x)
        obtain ⟨zx, hzx⟩ := get_lt h1x
        have cx1 := hcx i zx hzx
        obtain ⟨by', oy, rfl, hby, hny, hcy⟩ := HY.out (ne_of_lt h1y)
        obtain ⟨zy, hzy⟩ := get_lt h1y
        have cy1 := hcy i zy hzy
        have HZ : Hid (x[i]? = some zx ∧ y[i]? = some zy) := ⟨hzx, hzy⟩
        clear hcx hcy HX HY hzx hzy h1x h1y
        by_cases c1 : zx = zy
        · subst c1
          go_wp2
          go_quiet (fail)
          go_wp2
          go_roundw
          case rel => exact ⟨i + 1, by go_num, h1, HC.out.step HZ.out.1 HZ.out.2, _, rfl⟩
          case measure => simp [intOf]; omega
        · have c1' : (zx == zy) = false := by simpa using c1
          have c1'' : (zx != zy) = true := by simpa using c1
          have hf : r = false := by
            rw [← HR.out]
            refine decide_eq_false fun e => c1 ?_
            have h2 := HZ.out.1
            rw [e, HZ.out.2] at h2
            simp at h2
            exact h2.symm
          subst hf
          go_wp2
          go_quiet (fail)
          go_wp2
          go_ret
          exact ⟨rfl, dr1 _ _ _⟩
      · have hf : r = true := by
          rw [← HR.out]
          have h2 := HL.out
          refine decide_eq_true (Pfx.all ?_ (by omega))
          have := HC.out
          rwa [show i = x.length by omega] at this
        subst hf
        go_wp2
        go_ret
        exact ⟨rfl, _, rfl⟩
  · have hf : r = false := by
      rw [← HR.out]
      exact decide_eq_false fun e => hl (by rw [e])
    subst hf
    have hl' : ((x.length : Int) == (y.length : Int)) = false := by simp; omega
    have hl'' : ((x.length : Int) != (y.length : Int)) = true := by simp; omega
    go_enter Try.func71, Try.ntmps71
    go_wp2
    go_ret
    exact ⟨rfl, 0, rfl⟩

/-- a pair in memory: what it speaks of, and what it makes of it -/
abbrev Pr := Vl × Vl

/-- PAIRS BEHIND A SLICE: what they are is 'pd ps'. -/
def Prs (w : World) (B : Nat) (v : Value) (ps : List Pr) : Prop :=
  ∃ a c, v = .slice a ps.length c ∧ ps.length ≤ c ∧ ps.length ≤ 1073741824 ∧ (∀ p ∈ ps, Ints w B B p.1.1 p.1.2 ∧ Ints w B B p.2.1 p.2.2) ∧
    (ps ≠ [] → ∃ b o, a = some ⟨b, o, none⟩ ∧ b < B ∧ ∀ i p, ps[i]? = some p → w.cell? ⟨b, o + i * 2, none⟩ = some p.1.1 ∧ w.cell? ⟨b, o + i * 2 + 1, none⟩ = some p.2.1)

def pd (ps : List Pr) : List (List Int × List Int) := ps.map fun p => (p.1.2, p.2.2)

theorem Prs.keep {w w' : World} {B : Nat} {v : Value} {ps : List Pr} (h : Prs w B v ps) (hb : Below B w w') : Prs w' B v ps := by
  obtain ⟨a, c, hv, hc, hl, hi, hx⟩ := h
  refine ⟨a, c, hv, hc, hl, fun t ht => ⟨(hi t ht).1.keep hb, (hi t ht).2.keep hb⟩, fun hne => ?_⟩
  obtain ⟨b, o, ha, hB, hcell⟩ := hx hne
  exact ⟨b, o, ha, hB, fun i z hz => ⟨(hb.cell (p := ⟨b, o + i * 2, none⟩) hB).trans (hcell i z hz).1, (hb.cell (p := ⟨b, o + i * 2 + 1, none⟩) hB).trans (hcell i z hz).2⟩⟩
theorem Prs.at {w w' : World} {B : Nat} {v : Value} {ps : List Pr} (h : Prs w B v ps) (hB : B ≤ w.heap.size) (hb : Below w.heap.size w w') : Prs w' B v ps := h.keep (hb.mono hB)
theorem Prs.mono {w : World} {B B' : Nat} {v : Value} {ps : List Pr} (h : Prs w B v ps) (hB : B ≤ B') : Prs w B' v ps := by
  obtain ⟨a, c, hv, hc, hl, hi, hx⟩ := h
  refine ⟨a, c, hv, hc, hl, fun t ht => ⟨(hi t ht).1.mono hB (.inr hB), (hi t ht).2.mono hB (.inr hB)⟩, fun hne => ?_⟩
  obtain ⟨b, o, ha, hb, hcell⟩ := hx hne
  exact ⟨b, o, ha, by omega, hcell⟩

theorem Prs.get {w wr : World} {B : Nat} {a : Option Addr} {n c : Nat} {ps : List Pr} (hp : Prs w B (.slice a n c) ps) (hB : B ≤ w.heap.size) (hbl : Below w.heap.size w wr) {i : Nat} (h : i < ps.length) :
    ∃ b o sa sc xs ta tc ys, a = some ⟨b, o, none⟩ ∧ b < w.heap.size ∧ ps[i]? = some ((.slice sa xs.length sc, xs), (.slice ta ys.length tc, ys)) ∧ wr.cell? ⟨b, o + i * 2, none⟩ = some (.slice sa xs.length sc) ∧ wr.cell? ⟨b, o + i * 2 + 1, none⟩ = some (.slice ta ys.length tc) ∧
      Ints wr B B (.slice sa xs.length sc) xs ∧ Ints wr B B (.slice ta ys.length tc) ys := by
  obtain ⟨a', c', hv, hc, hl, hi, hx⟩ := hp
  simp only [Value.slice.injEq] at hv
  obtain ⟨rfl, rfl, rfl⟩ := hv
  obtain ⟨b, o, ha, hb, hcell⟩ := hx (ne_of_lt h)
  obtain ⟨⟨⟨s, xs⟩, ⟨t, ys⟩⟩, hs⟩ := get_lt h
  obtain ⟨hI, hJ⟩ := hi _ (List.mem_of_getElem? hs)
  have hI2 := hI.at hB hbl
  have hJ2 := hJ.at hB hbl
  obtain ⟨sa, sc, he, _⟩ := hI
  obtain ⟨ta, tc, he', _⟩ := hJ
  simp only at he he'
  subst he he'
  have hlt : b < w.heap.size := by omega
  exact ⟨b, o, sa, sc, xs, ta, tc, ys, ha, hlt, hs, (hbl.cell (p := ⟨b, o + i * 2, none⟩) hlt).trans (hcell i _ hs).1, (hbl.cell (p := ⟨b, o + i * 2 + 1, none⟩) hlt).trans (hcell i _ hs).2, hI2, hJ2⟩

/-- what a list of pairs makes of something -/
def toT : List (List Int × List Int) → List Int → List Int
  | [], o => o
  | p :: ps, o => if p.1 = o then p.2 else toT ps o

/-- none of those so far speaks of it -/
def Non (ps : List Pr) (i : Nat) (o : List Int) : Prop := toT (pd ps) o = toT (pd (ps.drop i)) o
theorem Non.step {ps : List Pr} {i : Nat} {o : List Int} {p : Pr} (h : Non ps i o) (hp : ps[i]? = some p) (hne : ¬ p.1.2 = o) : Non ps (i + 1) o := by
  unfold Non at *
  rw [h, List.drop_eq_getElem_cons (List.getElem?_eq_some_iff.1 hp).1, (List.getElem?_eq_some_iff.1 hp).2]
  simp only [pd, List.map_cons, toT]
  rw [if_neg hne]
theorem Non.hit {ps : List Pr} {i : Nat} {o : List Int} {p : Pr} (h : Non ps i o) (hp : ps[i]? = some p) (he : p.1.2 = o) : toT (pd ps) o = p.2.2 := by
  unfold Non at *
  rw [h, List.drop_eq_getElem_cons (List.getElem?_eq_some_iff.1 hp).1, (List.getElem?_eq_some_iff.1 hp).2]
  simp only [pd, List.map_cons, toT]
  rw [if_pos he]
theorem Non.end {ps : List Pr} {i : Nat} {o : List Int} (h : Non ps i o) (hi : ps.length ≤ i) : toT (pd ps) o = o := by
  unfold Non at *
  rw [h, List.drop_eq_nil_of_le hi]
  rfl

set_option maxHeartbeats 1000000 in
theorem to_any (B : Nat) (v u : Value) (ps : List Pr) (xs : List Int) (w : World) (hB : B ≤ w.heap.size) (hp : Prs w B v ps) (hu : Ints w B B u xs) (ys : List Int) (hr : toT (pd ps) xs = ys) :
    Calls Try.prog 57 #[v, u] w fun e w' => ∃ r, e = .returned r ∧ Ints w' B B r ys ∧ Below w.heap.size w w' := by
  have HP : Hid (Prs w B v ps) := hp
  have HU : Hid (Ints w B B u xs) := hu
  have HR : Hid (toT (pd ps) xs = ys) := hr
  obtain ⟨a, c, rfl, hc, hl, _⟩ := hp
  obtain ⟨ua, uc, rfl, _⟩ := hu
  clear hr
  go_enter Try.func57, Try.ntmps57
  go_wp2
  go_loopw [9] (fun s wr => ∃ i : Nat, s = .int .i64 (i : Int) ∧ i ≤ ps.length ∧ Hid (Non ps i xs) ∧ Below w.heap.size w wr) (fun s _ => ps.length - (intOf s).toNat)
  case atStart => exact ⟨0, rfl, Nat.zero_le _, by simp [Hid, Non], Below.refl _ _⟩
  case round =>
    obtain ⟨i, rfl, hit, HN, hbl⟩ := hrel
    have hbs := hbl.size
    by_cases h1 : i < ps.length
    · obtain ⟨b, o, sa, sc, fs, ta, tc, gs, rfl, hb, hs, d1, d2, hI, hJ⟩ := HP.out.get hB hbl h1
      have HS : Hid (ps[i]? = some ((.slice sa fs.length sc, fs), (.slice ta gs.length tc, gs))) := hs
      have HI : Hid (Ints wr B B (.slice sa fs.length sc) fs) := hI
      have HJ : Hid (Ints wr B B (.slice ta gs.length tc) gs) := hJ
      have hb1 : Below wr.heap.size wr (wr.alloc (.cells #[.slice sa fs.length sc, .slice ta gs.length tc] 103)) := ba _ _
      obtain ⟨r, hr⟩ : ∃ r, decide (fs = xs) = r := ⟨_, rfl⟩
      have HE : Hid (decide (fs = xs) = r) := hr
      have kc := equalI_any B B B (.slice sa fs.length sc) (.slice ua xs.length uc) fs xs (wr.alloc (.cells #[.slice sa fs.length sc, .slice ta gs.length tc] 103)) (HI.out.at (by omega) hb1) (HU.out.at hB (bt hbl hb1)) r hr
      clear hs hI hJ hr
      go_wp2_with fail
      refine kc.mono ?_
      rintro e w2 ⟨rfl, q, rfl⟩
      clear kc
      cases r with
      | true =>
        have hy : gs = ys := by rw [← HR.out]; exact (HN.out.hit HS.out (of_decide_eq_true HE.out)).symm
        subst hy
        go_wp2
        go_ret
        exact ⟨_, rfl, HJ.out.at (by omega) (below_drewN hb1 _), below_drewN (bt hbl hb1) _⟩
      | false =>
        have HN2 : Hid (Non ps (i + 1) xs) := HN.out.step HS.out (of_decide_eq_false HE.out)
        go_wp2
        go_roundw
        case rel => exact ⟨i + 1, by go_num, h1, HN2, below_drewN (bt hbl hb1) _⟩
        case measure => simp [intOf]; omega
    · have hy : xs = ys := by rw [← HR.out]; exact (HN.out.end (by omega)).symm
      subst hy
      go_wp2
      go_ret
      exact ⟨_, rfl, HU.out.at hB hbl, hbl⟩

set_option maxHeartbeats 1000000 in
theorem toR_any (B : Nat) (v u : Value) (ps : List Pr) (xs : List Int) (w : World) (hB : B ≤ w.heap.size) (hp : Prs w B v ps) (hu : Ints w B B u xs) (ys : List Int) (hr : toT (pd ps) xs = ys) :
    Calls Try.prog 58 #[v, u] w fun e w' => ∃ r, e = .returned r ∧ Ints w' B B r ys ∧ Below w.heap.size w w' := by
  have HP : Hid (Prs w B v ps) := hp
  have HU : Hid (Ints w B B u xs) := hu
  have HR : Hid (toT (pd ps) xs = ys) := hr
  obtain ⟨a, c, rfl, hc, hl, _⟩ := hp
  obtain ⟨ua, uc, rfl, _⟩ := hu
  clear hr
  go_enter Try.func58, Try.ntmps58
  go_wp2
  go_loopw [9] (fun s wr => ∃ i : Nat, s = .int .i64 (i : Int) ∧ i ≤ ps.length ∧ Hid (Non ps i xs) ∧ Below w.heap.size w wr) (fun s _ => ps.length - (intOf s).toNat)
  case atStart => exact ⟨0, rfl, Nat.zero_le _, by simp [Hid, Non], Below.refl _ _⟩
  case round =>
    obtain ⟨i, rfl, hit, HN, hbl⟩ := hrel
    have hbs := hbl.size
    by_cases h1 : i < ps.length
    · obtain ⟨b, o, sa, sc, fs, ta, tc, gs, rfl, hb, hs, d1, d2, hI, hJ⟩ := HP.out.get hB hbl h1
      have HS : Hid (ps[i]? = some ((.slice sa fs.length sc, fs), (.slice ta gs.length tc, gs))) := hs
      have HI : Hid (Ints wr B B (.slice sa fs.length sc) fs) := hI
      have HJ : Hid (Ints wr B B (.slice ta gs.length tc) gs) := hJ
      have hb1 : Below wr.heap.size wr (wr.alloc (.cells #[.slice sa fs.length sc, .slice ta gs.length tc] 103)) := ba _ _
      obtain ⟨r, hr⟩ : ∃ r, cmpT fs xs = r := ⟨_, rfl⟩
      have HE : Hid (cmpT fs xs = r) := hr
      have kc := refCompare_any B B B (.slice sa fs.length sc) (.slice ua xs.length uc) fs xs (wr.alloc (.cells #[.slice sa fs.length sc, .slice ta gs.length tc] 103)) (HI.out.at (by omega) hb1) (HU.out.at hB (bt hbl hb1)) r hr
      clear hs hI hJ hr
      go_wp2_with fail
      refine kc.mono ?_
      rintro e w2 ⟨rfl, q, rfl⟩
      clear kc
      by_cases hr0 : r = 0
      · subst hr0
        have hy : gs = ys := by rw [← HR.out]; exact (HN.out.hit HS.out ((cmpT_zero _ _).1 HE.out)).symm
        subst hy
        go_wp2
        go_ret
        exact ⟨_, rfl, HJ.out.at (by omega) (below_drewN hb1 _), below_drewN (bt hbl hb1) _⟩
      · have hr0' : (r == 0) = false := by simpa using hr0
        have HN2 : Hid (Non ps (i + 1) xs) := HN.out.step HS.out (fun e => hr0 (by rw [← HE.out]; exact (cmpT_zero _ _).2 e))
        go_wp2
        go_roundw
        case rel => exact ⟨i + 1, by go_num, h1, HN2, below_drewN (bt hbl hb1) _⟩
        case measure => simp [intOf]; omega
    · have hy : xs = ys := by rw [← HR.out]; exact (HN.out.end (by omega)).symm
      subst hy
      go_wp2
      go_ret
      exact ⟨_, rfl, HU.out.at hB hbl, hbl⟩

/-- the function that Map is handed -/
theorem map1_any (B bx : Nat) (v u : Value) (ps : List Pr) (xs : List Int) (w : World) (hB : B ≤ w.heap.size) (hc : w.cell? ⟨bx, 0, none⟩ = some v) (hp : Prs w B v ps) (hu : Ints w B B u xs) (ys : List Int) (hr : toT (pd ps) xs = ys) :
    Calls Try.prog 56 #[u, .pointer (some ⟨bx, 0, none⟩)] w fun e w' => ∃ r, e = .returned r ∧ Ints w' B B r ys ∧ Below w.heap.size w w' := by
  have kc := to_any B v u ps xs w hB hp hu ys hr
  obtain ⟨a, c, rfl, _⟩ := hp
  obtain ⟨ua, uc, rfl, _⟩ := hu
  clear hr
  go_enter Try.func56, Try.ntmps56
  go_wp2_with fail
  refine kc.mono ?_
  rintro e w1 ⟨r, rfl, h1, h2⟩
  go_wp2
  go_ret
  exact ⟨_, rfl, h1, h2⟩
end Go.Proofs.Ytdcdjjemndadaaa
