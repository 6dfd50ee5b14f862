import Derived.Test.YtlndlpjadajelaaGreatQl26
import Derived.Deep.RegionHeld3
import Derived.BigRegion
import Derived.OwnWalk
import Derived.Laws.MakeOwn
namespace Go.Proofs.YtlndlpjadajelaaGreat.K
open Go.RowKit Go.Proofs.YtlndlpjadajelaaGreat.K.Ds

/-- the product, as far as it is reckoned -/
def KP (p k : Nat) : Prop := k ≤ 16777216 ∧ (p ≤ 4096 → k = p) ∧ (4096 < p → 4096 < k)
theorem KP.lo {p k z : Nat} (h : KP p k) (hk : k ≤ 4096) (hz : z ≤ 4096) : KP (p * z) (k * z) := by
  obtain ⟨_, h2, h3⟩ := h
  have e : k = p := h2 (by omega)
  subst e
  refine ⟨?_, fun _ => rfl, fun h => h⟩
  exact Nat.mul_le_mul hk hz
theorem KP.hi {p k z : Nat} (h : KP p k) (hk : 4096 < k) (hz : 1 ≤ z) : KP (p * z) k := by
  obtain ⟨h1, h2, h3⟩ := h
  have hp : 4096 < p := by omega
  have : p * 1 ≤ p * z := Nat.mul_le_mul_left _ hz
  exact ⟨h1, fun h => by omega, fun _ => hk⟩

set_option maxHeartbeats 2000000 in
theorem rcolumns_any (B : Nat) (v : Value) (l : List Col) (w : World) (hB : B ≤ w.heap.size) (hp : Cols w B v l) (er : Int) (hr : colE l = er) :
    Calls Tryz.prog 78 #[v] w fun e w' => e = .returned (.int .i64 er) ∧ Below w.heap.size w w' := by
  have HP : Hid (Cols w B v l) := hp
  have HR : Hid (colE l = er) := hr
  obtain ⟨a, c, rfl, hc, hl⟩ := hp.slice
  clear hr
  go_enter Tryz.func78, Tryz.ntmps78
  by_cases h0 : l.length < 1
  · obtain rfl : 5 = er := by rw [← HR.out, colE, if_pos (by omega)]
    go_wp2
    go_ret
    exact ⟨rfl, Below.refl _ _⟩
  by_cases h6 : 6 < l.length
  · obtain rfl : 5 = er := by rw [← HR.out, colE, if_pos (by omega)]
    go_wp2
    go_ret
    exact ⟨rfl, Below.refl _ _⟩
  have HE : Hid (colE l = if colL [] l = 0 then (if 4096 < prd l then 4 else 0) else colL [] l) := by show _ = _; rw [colE, if_neg (by omega)]
  go_wp2
  go_loopw [3, 18] (fun nv s wr => ∃ (i k : Nat), nv = .int .i64 (k : Int) ∧ s = .int .i64 (i : Int) ∧ i ≤ l.length ∧ Hid (colL (l.take i) (l.drop i) = colL [] l) ∧ Hid (KP (prd (l.take i)) k) ∧ Below w.heap.size w wr) (fun _ s _ => l.length - (intOf s).toNat)
  case atStart => exact ⟨0, 1, rfl, rfl, Nat.zero_le _, by simp [Hid], ⟨by omega, fun _ => rfl, fun h => by simp [prd] at h⟩, Below.refl _ _⟩
  case round =>
    obtain ⟨i, k, rfl, rfl, hi, HI, HK, hbl⟩ := hrel
    by_cases h1 : i < l.length
    · obtain ⟨b, o, nm, sz, rfl, hb, hgt, c1, c2, hn⟩ := HP.out.get hB hbl h1
      have ST : Hid (colL [] l = if namB nm.data.toList then (if (l.take i).any (fun d => decide (d.1 = nm)) then 7 else if sz < 1 ∨ 4096 < sz then 3 else colL (l.take (i + 1)) (l.drop (i + 1))) else 2) := HI.out.symm.trans (colL_step hgt)
      have HPN : Hid (prd (l.take (i + 1)) = prd (l.take i) * sz.toNat) := prd_next hgt
      have hk16 : k ≤ 16777216 := HK.out.1
      clear hgt HI
      have hsz := hbl.size
      cases hnm : namB nm.data.toList with
      | false =>
        have HN : Hid (namB nm.data.toList = false) := hnm
        clear hnm
        obtain rfl : 2 = er := by rw [← HR.out, HE.out, ST.out, HN.out]; simp
        go_wp2_with fail
        refine (rnamed_any nm hn _ false HN.out).mono ?_
        rintro e w1 ⟨rfl, rfl⟩
        go_wp2
        go_ret
        exact ⟨rfl, bal hbl _⟩
      | true =>
        have HN : Hid (namB nm.data.toList = true) := hnm
        clear hnm
        go_wp2_with fail
        refine (rnamed_any nm hn _ true HN.out).mono ?_
        rintro e w1 ⟨rfl, rfl⟩
        obtain ⟨wq, hwq⟩ : ∃ wq : World, wq = wr := ⟨_, rfl⟩
        subst hwq
        obtain ⟨wo, hwo⟩ : ∃ wo : World, wo = wq.alloc (.cells #[.string nm, .int .i64 sz] 74) := ⟨_, rfl⟩
        have hblo : Below w.heap.size w wo := by rw [hwo]; exact bal hbl _
        have d0 : wo.cell? ⟨wq.heap.size, 0, none⟩ = some (.string nm) := by rw [hwo]; exact World.cell?_alloc_at _ _ _ _ rfl
        have d1 : wo.cell? ⟨wq.heap.size, 1, none⟩ = some (.int .i64 sz) := by rw [hwo]; exact World.cell?_alloc_at _ _ _ _ rfl
        have hz0 : wq.heap.size < wo.heap.size := by rw [hwo]; simp
        rw [← hwo]
        have HT : Hid (Cols wo B (.slice (some ⟨b, o, none⟩) i c) (l.take i)) := (HP.out.take i hi).at hB hblo
        have hti : Hid ((l.take i).length = i) := by show _ = _; rw [List.length_take]; omega
        have hBo : B ≤ wo.heap.size := by omega
        clear hwo hbl c1 c2
        go_wp2
        go_loopw [31] (fun s wi => ∃ (j : Nat), s = .int .i64 (j : Int) ∧ j ≤ i ∧ Hid (((l.take i).take j).any (fun d => decide (d.1 = nm)) = false) ∧ Below wo.heap.size wo wi) (fun s _ => i - (intOf s).toNat)
        case atStart => exact ⟨0, rfl, Nat.zero_le _, by simp [Hid], Below.refl _ _⟩
        case round =>
          obtain ⟨j, rfl, hj, HJ, hbi⟩ := hrel
          have d2 : wr.cell? ⟨wq.heap.size, 0, none⟩ = some (.string nm) := (hbi.cell (p := ⟨wq.heap.size, 0, none⟩) hz0).trans d0
          have d3 : wr.cell? ⟨wq.heap.size, 1, none⟩ = some (.int .i64 sz) := (hbi.cell (p := ⟨wq.heap.size, 1, none⟩) hz0).trans d1
          have hbr : Below w.heap.size w wr := bt hblo hbi
          have hzr := hbi.size
          clear d0 d1
          by_cases hj1 : j < i
          · obtain ⟨b', o', nm2, sz2, hbo, _, hgt2, e1, e2, _⟩ := HT.out.get hBo hbi (i := j) (by rw [hti.out]; exact hj1)
            simp only [Option.some.injEq, Addr.mk.injEq] at hbo
            obtain ⟨rfl, rfl, _⟩ := hbo
            have HG2 : Hid ((l.take i)[j]? = some (nm2, sz2)) := hgt2
            clear hgt2
            have d4 : (wr.alloc (.cells #[.string nm2, .int .i64 sz2] 74)).cell? ⟨wq.heap.size, 0, none⟩ = some (.string nm) := ((ba wr _).cell (p := ⟨wq.heap.size, 0, none⟩) (Nat.lt_of_lt_of_le hz0 hzr)).trans d2
            cases heq : decide (nm2 = nm) with
            | true =>
              have HE2 : Hid (decide (nm2 = nm) = true) := heq
              have hq : (nm2.toList == nm.toList) = true := (str_eq _ _).trans heq
              clear heq
              obtain rfl : 7 = er := by
                rw [← HR.out, HE.out, ST.out, HN.out, any_hit HG2.out HE2.out]; simp
              go_wp2
              go_ret
              exact ⟨rfl, bal hbr _⟩
            | false =>
              have HE2 : Hid (decide (nm2 = nm) = false) := heq
              have hq : (nm2.toList == nm.toList) = false := (str_eq _ _).trans heq
              clear heq
              go_wp2
              go_roundw
              case rel => exact ⟨j + 1, by go_num, hj1, by show _ = _; rw [any_step HG2.out, HJ.out, HE2.out]; rfl, bal hbi _⟩
              case measure => simp [intOf]; omega
          · have HA : Hid ((l.take i).any (fun d => decide (d.1 = nm)) = false) := by
              have := HJ.out; rwa [List.take_of_length_le (by rw [hti.out]; omega)] at this
            by_cases hz : sz < 1 ∨ 4096 < sz
            · obtain rfl : 3 = er := by rw [← HR.out, HE.out, ST.out, HN.out, HA.out]; simp [hz]
              by_cases hz1 : sz < 1
              · clear hz
                go_wp2
                go_ret
                exact ⟨rfl, hbr⟩
              · have hz2 : 4096 < sz := by omega
                clear hz
                go_wp2
                go_ret
                exact ⟨rfl, hbr⟩
            · have HI2 : Hid (colL (l.take (i + 1)) (l.drop (i + 1)) = colL [] l) := by show _ = _; rw [ST.out, HN.out, HA.out]; simp [hz]
              have hz1 : ¬ sz < 1 := by omega
              have hz2 : ¬ 4096 < sz := by omega
              clear hz
              by_cases hk2 : k ≤ 4096
              · have HK2 : Hid (KP (prd (l.take (i + 1))) (k * sz.toNat)) := by show KP _ _; rw [HPN.out]; exact HK.out.lo hk2 (by omega)
                have HKI : Hid ((k : Int) * sz = ((k * sz.toNat : Nat) : Int)) := by
                  show _ = _
                  rw [Int.natCast_mul, Int.toNat_of_nonneg (by omega)]
                have hw : wrap64 ((k : Int) * sz) = (k : Int) * sz := wrap_id (by have := HKI.out; have := HK2.out.1; omega)
                go_wp2
                go_roundw
                case rel => exact ⟨i + 1, k * sz.toNat, by first | exact congrArg _ HKI.out | (rw [hw]; exact congrArg _ HKI.out), by go_num, h1, HI2, HK2, hbr⟩
                case measure => simp [intOf]; omega
              · have HK2 : Hid (KP (prd (l.take (i + 1))) k) := by show KP _ _; rw [HPN.out]; exact HK.out.hi (by omega) (by omega)
                go_wp2
                go_roundw
                case rel => exact ⟨i + 1, k, rfl, by go_num, h1, HI2, HK2, hbr⟩
                case measure => simp [intOf]; omega
    · have HN : Hid (colL [] l = 0) := by have := HI.out; rw [List.drop_eq_nil_of_le (by omega)] at this; exact this.symm.trans rfl
      have HK2 : Hid (KP (prd l) k) := by have := HK.out; rwa [List.take_of_length_le (by omega)] at this
      have hk16 : k ≤ 16777216 := HK.out.1
      by_cases hpz : 4096 < k
      · obtain rfl : 4 = er := by rw [← HR.out, HE.out, HN.out, if_pos rfl, if_pos (by have := HK2.out.2.1; omega)]
        go_wp2
        go_ret
        exact ⟨rfl, hbl⟩
      · obtain rfl : 0 = er := by rw [← HR.out, HE.out, HN.out, if_pos rfl, if_neg (by have := HK2.out.2.2; omega)]
        go_wp2
        go_ret
        exact ⟨rfl, hbl⟩
end Go.Proofs.YtlndlpjadajelaaGreat.K

namespace Go.Proofs.YtlndlpjadajelaaGreat.K
open Go.RowKit Go.Proofs.YtlndlpjadajelaaGreat.K.Ds

/-- a row in memory: its value, its numbers -/
abbrev Rw := Value × List Int
/-- ROWS BEHIND A SLICE. -/
def Rws (w : World) (B : Nat) (v : Value) (ts : List Rw) : Prop :=
  ∃ a c, v = .slice a ts.length c ∧ ts.length ≤ c ∧ ts.length ≤ 9223372036854775807 ∧ (∀ t ∈ ts, Ints w B B t.1 t.2) ∧
    (ts ≠ [] → ∃ b o, a = some ⟨b, o, none⟩ ∧ b < B ∧ ∀ i t, ts[i]? = some t → w.cell? ⟨b, o + i, none⟩ = some t.1)
def rr (ts : List Rw) : List (List Int) := ts.map (·.2)
theorem rr_len (ts : List Rw) : (rr ts).length = ts.length := by simp [rr]
theorem rr_get {ts : List Rw} {i : Nat} {t : Rw} (h : ts[i]? = some t) : (rr ts)[i]? = some t.2 := by simp [rr, h]
theorem Rws.keep {w w' : World} {B : Nat} {v : Value} {ts : List Rw} (h : Rws w B v ts) (hb : Below B w w') : Rws w' B v ts := by
  obtain ⟨a, c, hv, hc, hl, hi, hx⟩ := h
  refine ⟨a, c, hv, hc, hl, fun t ht => (hi t ht).keep hb, fun hne => ?_⟩
  obtain ⟨b, o, ha, hB, hcell⟩ := hx hne
  exact ⟨b, o, ha, hB, fun i t ht => (hb.cell (p := ⟨b, o + i, none⟩) hB).trans (hcell i t ht)⟩
theorem Rws.at {w w' : World} {B : Nat} {v : Value} {ts : List Rw} (h : Rws w B v ts) (hB : B ≤ w.heap.size) (hb : Below w.heap.size w w') : Rws w' B v ts := h.keep (hb.mono hB)
theorem Rws.mono {w : World} {B B' : Nat} {v : Value} {ts : List Rw} (h : Rws w B v ts) (hB : B ≤ B') : Rws w B' v ts := by
  obtain ⟨a, c, hv, hc, hl, hi, hx⟩ := h
  refine ⟨a, c, hv, hc, hl, fun t ht => (hi t ht).mono hB (.inr hB), fun hne => ?_⟩
  obtain ⟨b, o, ha, hb, hcell⟩ := hx hne
  exact ⟨b, o, ha, by omega, hcell⟩
theorem Rws.slice {w : World} {B : Nat} {v : Value} {ts : List Rw} (h : Rws w B v ts) : ∃ a c, v = .slice a ts.length c ∧ ts.length ≤ c ∧ ts.length ≤ 9223372036854775807 := by
  obtain ⟨a, c, hv, hc, hl, _⟩ := h
  exact ⟨a, c, hv, hc, hl⟩
theorem Rws.get {w wr : World} {B : Nat} {a : Option Addr} {n c : Nat} {ts : List Rw} (h : Rws w B (.slice a n c) ts) (hB : B ≤ w.heap.size) (hb : Below w.heap.size w wr) {i : Nat} (hi : i < ts.length) :
    ∃ b o sa sc xs, a = some ⟨b, o, none⟩ ∧ b < B ∧ ts[i]? = some (.slice sa xs.length sc, xs) ∧ wr.cell? ⟨b, o + i, none⟩ = some (.slice sa xs.length sc) ∧ Ints wr B B (.slice sa xs.length sc) xs := by
  obtain ⟨a', c', hv, _, _, hin, hx⟩ := h.at hB hb
  simp only [Value.slice.injEq] at hv
  obtain ⟨rfl, rfl, rfl⟩ := hv
  obtain ⟨b, o, rfl, hbB, hcell⟩ := hx (ne_of_lt hi)
  obtain ⟨⟨tv, xs⟩, ht⟩ := get_lt hi
  have hI := hin _ (List.mem_of_getElem? ht)
  obtain ⟨sa, sc, e, _⟩ := hI.slice
  simp only at e
  subst e
  exact ⟨b, o, sa, sc, xs, rfl, hbB, ht, hcell i _ ht, hI⟩

set_option maxHeartbeats 1000000 in
theorem wrong_any (B : Nat) (cv rv : Value) (l : List Col) (ts : List Rw) (w : World) (hB : B ≤ w.heap.size) (hp : Cols w B cv l) (hq : Rws w B rv ts) (er : Int) (hr : wroE l (rr ts) = er) :
    Calls Tryz.prog 71 #[.agg #[cv, rv]] w fun e w' => e = .returned (.int .i64 er) ∧ Below w.heap.size w w' := by
  have HP : Hid (Cols w B cv l) := hp
  have HQ : Hid (Rws w B rv ts) := hq
  have HR : Hid (wroE l (rr ts) = er) := hr
  obtain ⟨a, c, rfl, hc, hl⟩ := hp.slice
  obtain ⟨a2, c2, rfl, hc2, hl2⟩ := hq.slice
  clear hr
  obtain ⟨ec, hec⟩ : ∃ ec, Hid (colE l = ec) := ⟨_, rfl⟩
  have kc := columns_any B _ l (w.alloc (.cells #[.slice a l.length c, .slice a2 ts.length c2] 27)) (by simp; omega) (HP.out.at hB (ba _ _)) ec hec.out
  have d0 : (w.alloc (.cells #[.slice a l.length c, .slice a2 ts.length c2] 27)).cell? ⟨w.heap.size, 0, none⟩ = some (.slice a l.length c) := nc _ _ 0 _ rfl rfl
  have d1 : (w.alloc (.cells #[.slice a l.length c, .slice a2 ts.length c2] 27)).cell? ⟨w.heap.size, 1, none⟩ = some (.slice a2 ts.length c2) := nc _ _ 1 _ rfl rfl
  go_enter Tryz.func71, Tryz.ntmps71
  go_wp2_with fail
  refine kc.mono ?_
  rintro e w1 ⟨rfl, hb1⟩
  have hbw : Below w.heap.size w w1 := bt (ba _ _) hb1
  have f0 : w1.cell? ⟨w.heap.size, 0, none⟩ = some (.slice a l.length c) := (hb1.cell (p := ⟨w.heap.size, 0, none⟩) (by simp)).trans d0
  have f1 : w1.cell? ⟨w.heap.size, 1, none⟩ = some (.slice a2 ts.length c2) := (hb1.cell (p := ⟨w.heap.size, 1, none⟩) (by simp)).trans d1
  have hz1 : w.heap.size < w1.heap.size := by have := hb1.size; simp at this; omega
  clear kc d0 d1 hb1
  by_cases he0 : ec = 0
  · subst he0
    have HE : Hid (wroE l (rr ts) = if 4096 < ts.length then 4 else rowsL l (rr ts)) := by show _ = _; rw [wroE, if_pos hec.out, rr_len]
    by_cases h4 : 4096 < ts.length
    · obtain rfl : 4 = er := by rw [← HR.out, HE.out, if_pos h4]
      go_wp2
      go_ret
      exact ⟨rfl, hbw⟩
    · go_wp2
      go_loopw [20] (fun s wr => ∃ (i : Nat), s = .int .i64 (i : Int) ∧ i ≤ ts.length ∧ Hid (rowsL l ((rr ts).drop i) = er) ∧ wr = w1) (fun s _ => ts.length - (intOf s).toNat)
      case atStart => exact ⟨0, rfl, Nat.zero_le _, by show _ = _; rw [List.drop_zero, ← HR.out, HE.out, if_neg h4], rfl⟩
      case round =>
        obtain ⟨i, rfl, hi, HI, rfl⟩ := hrel
        by_cases h1 : i < ts.length
        · obtain ⟨b, o, sa, sc, xs, rfl, hb, hg, e1, hI⟩ := HQ.out.get hB hbw h1
          have HII : Hid (Ints wr B B (.slice sa xs.length sc) xs) := hI
          have ST : Hid (er = if rowE l xs = 0 then rowsL l ((rr ts).drop (i + 1)) else rowE l xs) := HI.out.symm.trans (rowsL_step (rr_get hg))
          clear hg hI HI
          obtain ⟨ew, hew⟩ : ∃ ew, Hid (rowE l xs = ew) := ⟨_, rfl⟩
          have hBr : B ≤ wr.heap.size := by omega
          have kc := wrongRow_any B B B _ _ l xs wr hBr (HP.out.at hB hbw) hBr HII.out ew hew.out
          by_cases hw0 : ew = 0
          · subst hw0
            have HI2 : Hid (rowsL l ((rr ts).drop (i + 1)) = er) := by show _ = _; rw [ST.out, if_pos hew.out]
            go_wp2_with fail
            refine kc.mono ?_
            rintro e w2 ⟨rfl, rfl⟩
            go_wp2
            go_roundw
            case rel => exact ⟨i + 1, by go_num, h1, HI2, trivial⟩
            case measure => simp [intOf]; omega
          · have hne : (ew != 0) = true := by simpa using hw0
            obtain rfl : ew = er := by rw [ST.out, hew.out, if_neg hw0]
            go_wp2_with fail
            refine kc.mono ?_
            rintro e w2 ⟨rfl, rfl⟩
            go_wp2
            go_ret
            exact ⟨rfl, hbw⟩
        · obtain rfl : 0 = er := by have := HI.out; rw [List.drop_eq_nil_of_le (by rw [rr_len]; omega)] at this; exact this
          go_wp2
          go_ret
          exact ⟨rfl, hbw⟩
  · have hne : (ec != 0) = true := by simpa using he0
    obtain rfl : ec = er := by rw [← HR.out, wroE, hec.out, if_neg he0]
    go_wp2
    go_ret
    exact ⟨rfl, hbw⟩
set_option maxHeartbeats 1000000 in
theorem rwrong_any (B : Nat) (cv rv : Value) (l : List Col) (ts : List Rw) (w : World) (hB : B ≤ w.heap.size) (hp : Cols w B cv l) (hq : Rws w B rv ts) (er : Int) (hr : wroE l (rr ts) = er) :
    Calls Tryz.prog 51 #[.agg #[cv, rv]] w fun e w' => e = .returned (.int .i64 er) ∧ Below w.heap.size w w' := by
  have HP : Hid (Cols w B cv l) := hp
  have HQ : Hid (Rws w B rv ts) := hq
  have HR : Hid (wroE l (rr ts) = er) := hr
  obtain ⟨a, c, rfl, hc, hl⟩ := hp.slice
  obtain ⟨a2, c2, rfl, hc2, hl2⟩ := hq.slice
  clear hr
  obtain ⟨ec, hec⟩ : ∃ ec, Hid (colE l = ec) := ⟨_, rfl⟩
  have kc := rcolumns_any B _ l (w.alloc (.cells #[.slice a l.length c, .slice a2 ts.length c2] 27)) (by simp; omega) (HP.out.at hB (ba _ _)) ec hec.out
  have d0 : (w.alloc (.cells #[.slice a l.length c, .slice a2 ts.length c2] 27)).cell? ⟨w.heap.size, 0, none⟩ = some (.slice a l.length c) := nc _ _ 0 _ rfl rfl
  have d1 : (w.alloc (.cells #[.slice a l.length c, .slice a2 ts.length c2] 27)).cell? ⟨w.heap.size, 1, none⟩ = some (.slice a2 ts.length c2) := nc _ _ 1 _ rfl rfl
  go_enter Tryz.func51, Tryz.ntmps51
  go_wp2_with fail
  refine kc.mono ?_
  rintro e w1 ⟨rfl, hb1⟩
  have hbw : Below w.heap.size w w1 := bt (ba _ _) hb1
  have f0 : w1.cell? ⟨w.heap.size, 0, none⟩ = some (.slice a l.length c) := (hb1.cell (p := ⟨w.heap.size, 0, none⟩) (by simp)).trans d0
  have f1 : w1.cell? ⟨w.heap.size, 1, none⟩ = some (.slice a2 ts.length c2) := (hb1.cell (p := ⟨w.heap.size, 1, none⟩) (by simp)).trans d1
  have hz1 : w.heap.size < w1.heap.size := by have := hb1.size; simp at this; omega
  clear kc d0 d1 hb1
  by_cases he0 : ec = 0
  · subst he0
    have HE : Hid (wroE l (rr ts) = if 4096 < ts.length then 4 else rowsL l (rr ts)) := by show _ = _; rw [wroE, if_pos hec.out, rr_len]
    by_cases h4 : 4096 < ts.length
    · obtain rfl : 4 = er := by rw [← HR.out, HE.out, if_pos h4]
      go_wp2
      go_ret
      exact ⟨rfl, hbw⟩
    · go_wp2
      go_loopw [20] (fun s wr => ∃ (i : Nat), s = .int .i64 (i : Int) ∧ i ≤ ts.length ∧ Hid (rowsL l ((rr ts).drop i) = er) ∧ wr = w1) (fun s _ => ts.length - (intOf s).toNat)
      case atStart => exact ⟨0, rfl, Nat.zero_le _, by show _ = _; rw [List.drop_zero, ← HR.out, HE.out, if_neg h4], rfl⟩
      case round =>
        obtain ⟨i, rfl, hi, HI, rfl⟩ := hrel
        by_cases h1 : i < ts.length
        · obtain ⟨b, o, sa, sc, xs, rfl, hb, hg, e1, hI⟩ := HQ.out.get hB hbw h1
          have HII : Hid (Ints wr B B (.slice sa xs.length sc) xs) := hI
          have ST : Hid (er = if rowE l xs = 0 then rowsL l ((rr ts).drop (i + 1)) else rowE l xs) := HI.out.symm.trans (rowsL_step (rr_get hg))
          clear hg hI HI
          obtain ⟨ew, hew⟩ : ∃ ew, Hid (rowE l xs = ew) := ⟨_, rfl⟩
          have hBr : B ≤ wr.heap.size := by omega
          have kc := rrow_any B B B _ _ l xs wr hBr (HP.out.at hB hbw) hBr HII.out ew hew.out
          by_cases hw0 : ew = 0
          · subst hw0
            have HI2 : Hid (rowsL l ((rr ts).drop (i + 1)) = er) := by show _ = _; rw [ST.out, if_pos hew.out]
            go_wp2_with fail
            refine kc.mono ?_
            rintro e w2 ⟨rfl, rfl⟩
            go_wp2
            go_roundw
            case rel => exact ⟨i + 1, by go_num, h1, HI2, trivial⟩
            case measure => simp [intOf]; omega
          · have hne : (ew != 0) = true := by simpa using hw0
            obtain rfl : ew = er := by rw [ST.out, hew.out, if_neg hw0]
            go_wp2_with fail
            refine kc.mono ?_
            rintro e w2 ⟨rfl, rfl⟩
            go_wp2
            go_ret
            exact ⟨rfl, hbw⟩
        · obtain rfl : 0 = er := by have := HI.out; rw [List.drop_eq_nil_of_le (by rw [rr_len]; omega)] at this; exact this
          go_wp2
          go_ret
          exact ⟨rfl, hbw⟩
  · have hne : (ec != 0) = true := by simpa using he0
    obtain rfl : ec = er := by rw [← HR.out, wroE, hec.out, if_neg he0]
    go_wp2
    go_ret
    exact ⟨rfl, hbw⟩
end Go.Proofs.YtlndlpjadajelaaGreat.K

namespace Go.Proofs.YtlndlpjadajelaaGreat.K
open Go.RowKit Go.Proofs.YtlndlpjadajelaaGreat.K.Ds

theorem rowOk_at {l : List Col} {r : List Int} (h : RowOk l r) {i : Nat} {c : Col} {v : Int} (hc : l[i]? = some c) (hv : r[i]? = some v) : 0 ≤ v ∧ v < c.2 := by
  induction l generalizing r i with
  | nil => simp at hc
  | cons d l ih =>
    cases r with
    | nil => simp at hv
    | cons x r =>
      cases i with
      | zero => simp at hc hv; subst hc; subst hv; exact ⟨h.1, h.2.1⟩
      | succ i => simp at hc hv; exact ih h.2.2 hc hv
theorem plcF_step {l : List Col} {r : List Int} {i k : Nat} {c : Col} {v : Int} (hc : l[i]? = some c) (hv : r[i]? = some v) : plcF k (l.drop i) (r.drop i) = plcF (k * c.2.toNat + v.toNat) (l.drop (i + 1)) (r.drop (i + 1)) := by
  rw [List.drop_eq_getElem_cons (List.getElem?_eq_some_iff.1 hc).1, (List.getElem?_eq_some_iff.1 hc).2, List.drop_eq_getElem_cons (List.getElem?_eq_some_iff.1 hv).1, (List.getElem?_eq_some_iff.1 hv).2]
  rfl

set_option maxHeartbeats 1000000 in
theorem place_any (B Bi nb : Nat) (v u : Value) (l : List Col) (r : List Int) (w : World) (hB : B ≤ w.heap.size) (hp : Cols w B v l) (hBi : Bi ≤ w.heap.size) (hq : Ints w Bi nb u r) (hs : Szs l) (hle : prd l ≤ 4096) (ho : RowOk l r) (k0 : Nat) (hr : plc l r = k0) :
    Calls Tryz.prog 85 #[v, u] w fun e w' => e = .returned (.int .i64 (k0 : Int)) ∧ Below w.heap.size w w' := by
  have HP : Hid (Cols w B v l) := hp
  have HQ : Hid (Ints w Bi nb u r) := hq
  have HR : Hid (plcF 0 l r = k0) := by show _ = _; rw [plcF_eq ho, hr]; omega
  have HO : Hid (RowOk l r ∧ Szs l ∧ prd l ≤ 4096) := ⟨ho, hs, hle⟩
  have HLN : Hid (r.length = l.length) := ho.len
  obtain ⟨a, c, rfl, hc, hl⟩ := hp.slice
  obtain ⟨a2, c2, rfl, hc2, hl2⟩ := hq.slice
  clear hr hs hle ho
  go_enter Tryz.func85, Tryz.ntmps85
  go_wp2
  go_loopw [5, 10] (fun nv s wr => ∃ (i k : Nat), nv = .int .i64 (k : Int) ∧ s = .int .i64 (i : Int) ∧ i ≤ l.length ∧ Hid (plcF k (l.drop i) (r.drop i) = k0) ∧ Hid (k < prd (l.take i)) ∧ Below w.heap.size w wr) (fun _ s _ => l.length - (intOf s).toNat)
  case atStart => exact ⟨0, 0, rfl, rfl, Nat.zero_le _, by simpa [Hid] using HR.out, by simp [Hid, prd], Below.refl _ _⟩
  case round =>
    obtain ⟨i, k, rfl, rfl, hi, HI, HK, hbl⟩ := hrel
    by_cases h1 : i < l.length
    · obtain ⟨b, o, nm, sz, rfl, hb, hg, c1, c2, hn⟩ := HP.out.get hB hbl h1
      obtain ⟨b2, o2, x, rfl, hb2, _, hg2, e1⟩ := HQ.out.get hBi hbl (i := i) (by have := HLN.out; omega)
      have z1 : (i : Int) < (r.length : Int) := by have := HLN.out; omega
      have hsz := HO.out.2.1 _ (List.mem_of_getElem? hg)
      simp only at hsz
      have hx := rowOk_at HO.out.1 hg hg2
      simp only at hx
      have HI2 : Hid (plcF (k * sz.toNat + x.toNat) (l.drop (i + 1)) (r.drop (i + 1)) = k0) := (plcF_step hg hg2).symm.trans HI.out
      have HK2 : Hid (k * sz.toNat + x.toNat < prd (l.take (i + 1))) := by
        show _ < _
        rw [prd_next hg]
        have h2 : (k + 1) * sz.toNat ≤ prd (l.take i) * sz.toNat := Nat.mul_le_mul_right _ HK.out
        rw [Nat.add_mul] at h2
        simp only
        omega
      have HK3 : Hid (k * sz.toNat + x.toNat ≤ 4096) := by
        have h3 := prd_pre HO.out.2.1 (i + 1)
        have := HK2.out
        have := HO.out.2.2
        show _ ≤ _
        omega
      have HM : Hid ((k : Int) * sz = ((k * sz.toNat : Nat) : Int)) := by
        show _ = _
        rw [Int.natCast_mul, Int.toNat_of_nonneg (by omega)]
      have hw : wrap64 ((k : Int) * sz) = (k : Int) * sz := wrap_id (by have := HM.out; have := HK3.out; omega)
      have hw2 : wrap64 ((k : Int) * sz + x) = (k : Int) * sz + x := wrap_id (by have := HM.out; have := HK3.out; omega)
      have d1 : (wr.alloc (.cells #[.string nm, .int .i64 sz] 74)).cell? ⟨b2, o2 + i, none⟩ = some (.int .i64 x) := ((ba wr _).cell (p := ⟨b2, o2 + i, none⟩) (by have := hbl.size; simp; omega)).trans e1
      clear hg hg2 HI
      go_wp2
      go_quiet (fail)
      go_wp2
      go_roundw
      case rel => exact ⟨i + 1, k * sz.toNat + x.toNat, by have := HM.out; first | go_num | (simp [hw, hw2]; omega), by go_num, h1, HI2, HK2, below_drewN (bal hbl _) _⟩
      case measure => simp [intOf]; omega
    · have HN : Hid (k = k0) := by
        have := HI.out
        rw [List.drop_eq_nil_of_le (by omega)] at this
        exact this
      go_wp2
      go_ret
      exact ⟨by rw [← HN.out]; rfl, hbl⟩
end Go.Proofs.YtlndlpjadajelaaGreat.K

namespace Go.Proofs.YtlndlpjadajelaaGreat.K
open Go.RowKit Go.Proofs.YtlndlpjadajelaaGreat.K.Ds

theorem info3 : (Tryz.prog.info? 3).map (fun i => (i.zero, i.size, i.bytes)) = some (some (.int .i64 0), 1, 8) := by kernel_rfl

/-- a row of numbers that may be written -/
structure RowI (w : World) (g : Nat) (xs : List Int) : Prop where
  cells : ∀ i x, xs[i]? = some x → w.cell? ⟨g, i, none⟩ = some (.int .i64 x)
  thaw : ∀ i, i < xs.length → w.frozen? ⟨g, i, none⟩ = false
  lt : g < w.heap.size
theorem RowI.keep {w w' : World} {g N : Nat} {xs : List Int} (h : RowI w g xs) (hb : Below N w w') (hg : g < N) : RowI w' g xs :=
  ⟨fun i x hi => (hb.cell (p := ⟨g, i, none⟩) hg).trans (h.cells i x hi), fun i hi => (hb.frozen (p := ⟨g, i, none⟩) hg).trans (h.thaw i hi), Nat.lt_of_lt_of_le h.lt hb.size⟩
theorem RowI.set {w : World} {g : Nat} {xs : List Int} (h : RowI w g xs) (i : Nat) (k : Int) : RowI (w.setCell ⟨g, i, none⟩ (.int .i64 k)) g (xs.set i k) := by
  refine ⟨fun j x hj => ?_, fun j hj => by rw [sc_frozen]; exact h.thaw j (by simpa using hj), by simpa using h.lt⟩
  by_cases e : i = j
  · subst e
    have hi : i < xs.length := by have := (List.getElem?_eq_some_iff.1 hj).1; simpa using this
    rw [List.getElem?_set_self hi] at hj
    obtain rfl : k = x := by simpa using hj
    obtain ⟨y, hy⟩ := get_lt hi
    exact sc_same (h.cells i y hy)
  · rw [List.getElem?_set_ne e] at hj
    rw [sc_other (fun h => e (congrArg Addr.off h))]
    exact h.cells j x hj
theorem RowI.made (w : World) (n : Nat) : RowI (w.alloc (.cells (madeCells #[.int .i64 0] n) 3)) w.heap.size (List.replicate n 0) := by
  refine ⟨fun i x hi => ?_, fun i _ => World.frozen?_alloc_at _ _ _ _ rfl, by simp⟩
  have h1 : i < n := by have := (List.getElem?_eq_some_iff.1 hi).1; simpa using this
  obtain rfl : x = 0 := by
    have := (List.getElem?_eq_some_iff.1 hi).2; simp at this; exact this.symm
  rw [World.cell?_alloc_at _ _ _ _ rfl]
  simp [madeCells, h1, Nat.mod_one]
theorem RowI.ints {w : World} {g : Nat} {xs : List Int} (h : RowI w g xs) (hl : xs.length ≤ 9223372036854775807) : ∀ m, m < g → Ints w w.heap.size m (.slice (some ⟨g, 0, none⟩) xs.length xs.length) xs :=
  fun m hm => ⟨_, _, rfl, Nat.le_refl _, hl, fun _ => ⟨g, 0, rfl, h.lt, by omega, fun i x hi => by rw [Nat.zero_add]; exact h.cells i x hi⟩⟩

/-- 'make' of n numbers -/
theorem make_ints (n : Nat) (hn : n ≤ 1073741824) (u : World) : (Instr.makeSlice 65 (.int .i64 (n : Int)) (.int .i64 (n : Int))).run Tryz.prog u =
    .ok (.slice (some ⟨u.heap.size, 0, none⟩) n n) (u.alloc (.cells (madeCells #[.int .i64 0] n) 3)) := by
  obtain ⟨i0, hi, hz0, hz1, hz2⟩ := info_parts info3
  have h := run_make (P := Tryz.prog) u 65 3 i0 (.int .i64 0) Tryz.underlying65 hi hz0 .i64 .i64 (n : Int) (n : Int) (by omega) (Int.le_refl _) (by rw [hz2]; omega) (by omega)
  rw [Int.toNat_natCast] at h
  simpa [hz1, Value.cells] using h

/-- what Cells answers -/
def cellsR (l : List Col) (rs : List (List Int)) : List Int × Int := if wroE l rs = 0 then (celT l rs, 0) else ([], wroE l rs)
/-- numbers in new memory -/
def NewI (lo : Nat) (w : World) (v : Value) (xs : List Int) : Prop := ∀ m, m < lo → Ints w w.heap.size m v xs
def CellsP (xs : List Int) (er : Int) (w : World) (e : Ending) (w' : World) : Prop :=
  ∃ v', e = .returned (.tuple #[v', .int .i64 er]) ∧ NewI w.heap.size w' v' xs ∧ Below w.heap.size w w'
theorem newI_nil (lo : Nat) (w : World) : NewI lo w (.slice none 0 0) [] := fun m _ => ⟨none, 0, rfl, Nat.le_refl _, by simp, fun h => absurd rfl h⟩

theorem cadd_get {xs : List Int} {k : Nat} {x : Int} (h : xs[k]? = some x) : cadd xs k = xs.set k (x + 1) := by
  rw [cadd, List.getD, h]; rfl

set_option maxHeartbeats 1000000 in
theorem cells_any (B : Nat) (cv rv : Value) (l : List Col) (ts : List Rw) (w : World) (hB : B ≤ w.heap.size) (hp : Cols w B cv l) (hq : Rws w B rv ts) (xs : List Int) (er : Int) (hr : cellsR l (rr ts) = (xs, er)) :
    Calls Tryz.prog 35 #[.agg #[cv, rv]] w (CellsP xs er w) := by
  have HP : Hid (Cols w B cv l) := hp
  have HQ : Hid (Rws w B rv ts) := hq
  have HR : Hid (cellsR l (rr ts) = (xs, er)) := hr
  obtain ⟨a, c, rfl, hc, hl⟩ := hp.slice
  obtain ⟨a2, c2, rfl, hc2, hl2⟩ := hq.slice
  clear hr
  obtain ⟨ec, hec⟩ : ∃ ec, Hid (wroE l (rr ts) = ec) := ⟨_, rfl⟩
  have kc := wrong_any B _ _ l ts (w.alloc (.cells #[.slice a l.length c, .slice a2 ts.length c2] 27)) (by simp; omega) (HP.out.at hB (ba _ _)) (HQ.out.at hB (ba _ _)) ec hec.out
  have d0 : (w.alloc (.cells #[.slice a l.length c, .slice a2 ts.length c2] 27)).cell? ⟨w.heap.size, 0, none⟩ = some (.slice a l.length c) := nc _ _ 0 _ rfl rfl
  have d1 : (w.alloc (.cells #[.slice a l.length c, .slice a2 ts.length c2] 27)).cell? ⟨w.heap.size, 1, none⟩ = some (.slice a2 ts.length c2) := nc _ _ 1 _ rfl rfl
  go_enter Tryz.func35, Tryz.ntmps35
  go_wp2_with fail
  refine kc.mono ?_
  rintro e w1 ⟨rfl, hb1⟩
  have hbw : Below w.heap.size w w1 := bt (ba _ _) hb1
  have f0 : w1.cell? ⟨w.heap.size, 0, none⟩ = some (.slice a l.length c) := (hb1.cell (p := ⟨w.heap.size, 0, none⟩) (by simp)).trans d0
  have f1 : w1.cell? ⟨w.heap.size, 1, none⟩ = some (.slice a2 ts.length c2) := (hb1.cell (p := ⟨w.heap.size, 1, none⟩) (by simp)).trans d1
  have hz1 : w.heap.size < w1.heap.size := by have := hb1.size; simp at this; omega
  clear kc d0 d1 hb1
  by_cases he0 : ec = 0
  · subst he0
    have HW : Hid (colE l = 0 ∧ (rr ts).length ≤ 4096 ∧ ∀ r ∈ rr ts, RowOk l r) := wroE_ok hec.out
    have HC := colE_ok HW.out.1
    have HO : Hid (Szs l ∧ prd l ≤ 4096) := ⟨HC.2.2.1, HC.2.2.2.1⟩
    have hxs : celT l (rr ts) = xs ∧ 0 = er := by
      have := HR.out
      rw [cellsR, if_pos hec.out, Prod.mk.injEq] at this
      exact this
    obtain ⟨hxs, rfl⟩ := hxs
    have HX : Hid (celT l (rr ts) = xs) := hxs
    obtain ⟨n, hn⟩ : ∃ n, Hid (prd l = n) := ⟨_, rfl⟩
    have hn4 : n ≤ 4096 := by rw [← hn.out]; exact HO.out.2
    have kc := size_any B _ l w1 (by omega) (HP.out.at hB hbw) HO.out.1 n (by rw [hn.out]; omega)
    have hmk := make_ints n (by omega)
    have hts : ts.length ≤ 4096 := by have := HW.out.2.1; rwa [rr_len] at this
    clear hxs HC
    go_wp2_with fail
    refine kc.mono ?_
    rintro e w2 ⟨rfl, hb2⟩
    have hbw2 : Below w.heap.size w w2 := bt hbw hb2
    have g0 : w2.cell? ⟨w.heap.size, 0, none⟩ = some (.slice a l.length c) := (hb2.cell (p := ⟨w.heap.size, 0, none⟩) hz1).trans f0
    have g1 : w2.cell? ⟨w.heap.size, 1, none⟩ = some (.slice a2 ts.length c2) := (hb2.cell (p := ⟨w.heap.size, 1, none⟩) hz1).trans f1
    have hz2 : w.heap.size < w2.heap.size := by have := hb2.size; omega
    clear kc f0 f1 hb2 hbw hz1
    have e1 : (w2.alloc (.cells (madeCells #[.int .i64 0] n) 3)).cell? ⟨w.heap.size, 1, none⟩ = some (.slice a2 ts.length c2) := ((ba w2 _).cell (p := ⟨w.heap.size, 1, none⟩) hz2).trans g1
    go_wp2
    go_loopw [20] (fun s wr => ∃ (i : Nat), s = .int .i64 (i : Int) ∧ i ≤ ts.length ∧ Hid (RowI wr w2.heap.size (celT l ((rr ts).take i))) ∧ Below w2.heap.size w2 wr) (fun s _ => ts.length - (intOf s).toNat)
    case atStart => exact ⟨0, rfl, Nat.zero_le _, by show RowI _ _ _; rw [List.take_zero, celT_nil, hn.out]; exact RowI.made _ _, ba _ _⟩
    case round =>
      obtain ⟨i, rfl, hi, HI, hbl⟩ := hrel
      by_cases h1 : i < ts.length
      · have hbwr : Below w.heap.size w wr := bt hbw2 hbl
        obtain ⟨b, o, sa, sc, r, rfl, hb, hg, c1, hI⟩ := HQ.out.get hB hbwr h1
        have HII : Hid (Ints wr B B (.slice sa r.length sc) r) := hI
        have HRO : Hid (RowOk l r) := HW.out.2.2 _ (List.mem_of_getElem? (rr_get hg))
        have q0 : wr.cell? ⟨w.heap.size, 0, none⟩ = some (.slice a l.length c) := (hbl.cell (p := ⟨w.heap.size, 0, none⟩) hz2).trans g0
        have hzr := hbl.size
        obtain ⟨k0, hk0⟩ : ∃ k0, Hid (plc l r = k0) := ⟨_, rfl⟩
        have hkn : k0 < n := by rw [← hk0.out, ← hn.out]; exact plc_lt HRO.out
        have kc := place_any B B B _ _ l r wr (by omega) (HP.out.at hB hbwr) (by omega) HII.out HO.out.1 HO.out.2 HRO.out k0 hk0.out
        have HT : Hid (celT l ((rr ts).take (i + 1)) = cadd (celT l ((rr ts).take i)) k0) := by
          show _ = _
          rw [List.take_add_one, rr_get hg, Option.toList_some, celT_snoc HO.out.1 HRO.out, hk0.out]
        have hlen : Hid ((celT l ((rr ts).take i)).length = n) := by show _ = _; rw [celT_len, hn.out]
        obtain ⟨y, hy⟩ := get_lt (l := celT l ((rr ts).take i)) (i := k0) (by rw [hlen.out]; exact hkn)
        have hyb := celT_bd (List.mem_of_getElem? hy)
        have hyb2 : y ≤ 4096 := by
          have : ((rr ts).take i).length ≤ 4096 := by have := HW.out.2.1; rw [List.length_take]; omega
          omega
        have hyb1 := hyb.1
        clear hg hI hyb
        go_wp2_with fail
        refine kc.mono ?_
        rintro e w4 ⟨rfl, hb4⟩
        have hbl4 : Below w2.heap.size w2 w4 := bt hbl hb4
        have hR4 := HI.out.keep hb4 HI.out.lt
        have HR4 : Hid (RowI w4 w2.heap.size (celT l ((rr ts).take i))) := hR4
        have p1 := hR4.cells k0 y hy
        have p2 := hR4.thaw k0 (by rw [hlen.out]; exact hkn)
        have HY : Hid ((celT l ((rr ts).take i))[k0]? = some y) := hy
        have zk : (k0 : Int) < (n : Int) := by omega
        clear kc hb4 hR4 hy
        go_wp2
        go_roundw
        case rel =>
          refine ⟨i + 1, by go_num, h1, ?_, bs hbl4 (p := ⟨w2.heap.size, k0, none⟩) (Nat.le_refl _) _⟩
          show RowI _ _ _
          rw [HT.out, cadd_get HY.out]
          exact HR4.out.set k0 (y + 1)
        case measure => simp [intOf]; omega
      · have HF : Hid (RowI wr w2.heap.size xs) := by
          have := HI.out
          rwa [List.take_of_length_le (by rw [rr_len]; omega), HX.out] at this
        have hxl : xs.length = n := by rw [← HX.out, celT_len, hn.out]
        go_wp2
        go_ret2
        have := HF.out.ints (by omega)
        rw [hxl] at this
        exact ⟨_, rfl, fun m hm => this m (by omega), bt hbw2 hbl⟩
  · have hne : (ec != 0) = true := by simpa using he0
    have hxs : ([] : List Int) = xs ∧ ec = er := by
      have := HR.out
      rw [cellsR, hec.out, if_neg he0, Prod.mk.injEq] at this
      exact this
    obtain ⟨rfl, rfl⟩ := hxs
    go_wp2
    go_ret2
    exact ⟨_, rfl, newI_nil _ _, hbw⟩
end Go.Proofs.YtlndlpjadajelaaGreat.K
