import Derived.Test.YtlndlpjadajelaaGreatQa28
import Derived.Deep.RegionHeld3
import Derived.BigRegion
namespace Go.Proofs.YtlndlpjadajelaaGreat.K
open Go.RowKit Go.Proofs.YtlndlpjadajelaaGreat.K.Ds

/-- a row in memory: its value, its numbers -/
abbrev Rw := Value × List Int
/-- ROWS BEHIND A SLICE. -/
def Rws (w : World) (B : Nat) (v : Value) (ts : List Rw) : Prop :=
  ∃ a c, v = .slice a ts.length c ∧ ts.length ≤ c ∧ ts.length ≤ 9223372036854775807 ∧ (∀ t ∈ ts, Ints w B B t.1 t.2) ∧
    (ts ≠ [] → ∃ b o, a = some ⟨b, o, none⟩ ∧ b < B ∧ ∀ i t, ts[i]? = some t → w.cell? ⟨b, o + i, none⟩ = some t.1)
def rr (ts : List Rw) : List (List Int) := ts.map (·.2)
theorem rr_len (ts : List Rw) : (rr ts).length = ts.length := by simp [rr]
theorem rr_get {ts : List Rw} {i : Nat} {t : Rw} (h : ts[i]? = some t) : (rr ts)[i]? = some t.2 := by simp [rr, h]
theorem Rws.keep {w w' : World} {B : Nat} {v : Value} {ts : List Rw} (h : Rws w B v ts) (hb : Below B w w') : Rws w' B v ts := by
  obtain ⟨a, c, hv, hc, hl, hi, hx⟩ := h
  refine ⟨a, c, hv, hc, hl, fun t ht => (hi t ht).keep hb, fun hne => ?_⟩
  obtain ⟨b, o, ha, hB, hcell⟩ := hx hne
  exact ⟨b, o, ha, hB, fun i t ht => (hb.cell (p := ⟨b, o + i, none⟩) hB).trans (hcell i t ht)⟩
theorem Rws.at {w w' : World} {B : Nat} {v : Value} {ts : List Rw} (h : Rws w B v ts) (hB : B ≤ w.heap.size) (hb : Below w.heap.size w w') : Rws w' B v ts := h.keep (hb.mono hB)
theorem Rws.mono {w : World} {B B' : Nat} {v : Value} {ts : List Rw} (h : Rws w B v ts) (hB : B ≤ B') : Rws w B' v ts := by
  obtain ⟨a, c, hv, hc, hl, hi, hx⟩ := h
  refine ⟨a, c, hv, hc, hl, fun t ht => (hi t ht).mono hB (.inr hB), fun hne => ?_⟩
  obtain ⟨b, o, ha, hb, hcell⟩ := hx hne
  exact ⟨b, o, ha, by omega, hcell⟩
theorem Rws.slice {w : World} {B : Nat} {v : Value} {ts : List Rw} (h : Rws w B v ts) : ∃ a c, v = .slice a ts.length c ∧ ts.length ≤ c ∧ ts.length ≤ 9223372036854775807 := by
  obtain ⟨a, c, hv, hc, hl, _⟩ := h
  exact ⟨a, c, hv, hc, hl⟩
theorem Rws.get {w wr : World} {B : Nat} {a : Option Addr} {n c : Nat} {ts : List Rw} (h : Rws w B (.slice a n c) ts) (hB : B ≤ w.heap.size) (hb : Below w.heap.size w wr) {i : Nat} (hi : i < ts.length) :
    ∃ b o sa sc xs, a = some ⟨b, o, none⟩ ∧ b < B ∧ ts[i]? = some (.slice sa xs.length sc, xs) ∧ wr.cell? ⟨b, o + i, none⟩ = some (.slice sa xs.length sc) ∧ Ints wr B B (.slice sa xs.length sc) xs := by
  obtain ⟨a', c', hv, _, _, hin, hx⟩ := h.at hB hb
  simp only [Value.slice.injEq] at hv
  obtain ⟨rfl, rfl, rfl⟩ := hv
  obtain ⟨b, o, rfl, hbB, hcell⟩ := hx (ne_of_lt hi)
  obtain ⟨⟨tv, xs⟩, ht⟩ := get_lt hi
  have hI := hin _ (List.mem_of_getElem? ht)
  obtain ⟨sa, sc, e, _⟩ := hI.slice
  simp only at e
  subst e
  exact ⟨b, o, sa, sc, xs, rfl, hbB, ht, hcell i _ ht, hI⟩

set_option maxHeartbeats 1000000 in
theorem wrong_any (B : Nat) (cv rv : Value) (l : List Col) (ts : List Rw) (w : World) (hB : B ≤ w.heap.size) (hp : Cols w B cv l) (hq : Rws w B rv ts) (er : Int) (hr : wroE l (rr ts) = er) :
    Calls Tryz.prog 71 #[.agg #[cv, rv]] w fun e w' => e = .returned (.int .i64 er) ∧ Below w.heap.size w w' := by
  have HP : Hid (Cols w B cv l) := hp
  have HQ : Hid (Rws w B rv ts) := hq
  have HR : Hid (wroE l (rr ts) = er) := hr
  obtain ⟨a, c, rfl, hc, hl⟩ := hp.slice
  obtain ⟨a2, c2, rfl, hc2, hl2⟩ := hq.slice
  clear hr
  obtain ⟨ec, hec⟩ : ∃ ec, Hid (colE l = ec) := ⟨_, rfl⟩
  have kc := columns_any B _ l (w.alloc (.cells #[.slice a l.length c, .slice a2 ts.length c2] 27)) (by simp; omega) (HP.out.at hB (ba _ _)) ec hec.out
  have d0 : (w.alloc (.cells #[.slice a l.length c, .slice a2 ts.length c2] 27)).cell? ⟨w.heap.size, 0, none⟩ = some (.slice a l.length c) := nc _ _ 0 _ rfl rfl
  have d1 : (w.alloc (.cells #[.slice a l.length c, .slice a2 ts.length c2] 27)).cell? ⟨w.heap.size, 1, none⟩ = some (.slice a2 ts.length c2) := nc _ _ 1 _ rfl rfl
  go_enter Tryz.func71, Tryz.ntmps71
  go_wp2_with fail
  refine kc.mono ?_
  rintro e w1 ⟨rfl, hb1⟩
  have hbw : Below w.heap.size w w1 := bt (ba _ _) hb1
  have f0 : w1.cell? ⟨w.heap.size, 0, none⟩ = some (.slice a l.length c) := (hb1.cell (p := ⟨w.heap.size, 0, none⟩) (by simp)).trans d0
  have f1 : w1.cell? ⟨w.heap.size, 1, none⟩ = some (.slice a2 ts.length c2) := (hb1.cell (p := ⟨w.heap.size, 1, none⟩) (by simp)).trans d1
  have hz1 : w.heap.size < w1.heap.size := by have := hb1.size; simp at this; omega
  clear kc d0 d1 hb1
  by_cases he0 : ec = 0
  · subst he0
    have HE : Hid (wroE l (rr ts) = if 4096 < ts.length then 4 else rowsL l (rr ts)) := by show _ = _; rw [wroE, if_pos hec.out, rr_len]
    by_cases h4 : 4096 < ts.length
    · obtain rfl : 4 = er := by rw [← HR.out, HE.out, if_pos h4]
      go_wp2
      go_ret
      exact ⟨rfl, hbw⟩
    · go_wp2
      go_loopw [20] (fun s wr => ∃ (i : Nat), s = .int .i64 (i : Int) ∧ i ≤ ts.length ∧ Hid (rowsL l ((rr ts).drop i) = er) ∧ wr = w1) (fun s _ => ts.length - (intOf s).toNat)
      case atStart => exact ⟨0, rfl, Nat.zero_le _, by show _ = _; rw [List.drop_zero, ← HR.out, HE.out, if_neg h4], rfl⟩
      case round =>
        obtain ⟨i, rfl, hi, HI, rfl⟩ := hrel
        by_cases h1 : i < ts.length
        · obtain ⟨b, o, sa, sc, xs, rfl, hb, hg, e1, hI⟩ := HQ.out.get hB hbw h1
          have HII : Hid (Ints wr B B (.slice sa xs.length sc) xs) := hI
          have ST : Hid (er = if rowE l xs = 0 then rowsL l ((rr ts).drop (i + 1)) else rowE l xs) := HI.out.symm.trans (rowsL_step (rr_get hg))
          clear hg hI HI
          obtain ⟨ew, hew⟩ : ∃ ew, Hid (rowE l xs = ew) := ⟨_, rfl⟩
          have hBr : B ≤ wr.heap.size := by omega
          have kc := wrongRow_any B B B _ _ l xs wr hBr (HP.out.at hB hbw) hBr HII.out ew hew.out
          by_cases hw0 : ew = 0
          · subst hw0
            have HI2 : Hid (rowsL l ((rr ts).drop (i + 1)) = er) := by show _ = _; rw [ST.out, if_pos hew.out]
            go_wp2_with fail
            refine kc.mono ?_
            rintro e w2 ⟨rfl, rfl⟩
            go_wp2
            go_roundw
            case rel => exact ⟨i + 1, by go_num, h1, HI2, trivial⟩
            case measure => simp [intOf]; omega
          · have hne : (ew != 0) = true := by simpa using hw0
            obtain rfl : ew = er := by rw [ST.out, hew.out, if_neg hw0]
            go_wp2_with fail
            refine kc.mono ?_
            rintro e w2 ⟨rfl, rfl⟩
            go_wp2
            go_ret
            exact ⟨rfl, hbw⟩
        · obtain rfl : 0 = er := by have := HI.out; rw [List.drop_eq_nil_of_le (by rw [rr_len]; omega)] at this; exact this
          go_wp2
          go_ret
          exact ⟨rfl, hbw⟩
  · have hne : (ec != 0) = true := by simpa using he0
    obtain rfl : ec = er := by rw [← HR.out, wroE, hec.out, if_neg he0]
    go_wp2
    go_ret
    exact ⟨rfl, hbw⟩
set_option maxHeartbeats 1000000 in
theorem rwrong_any (B : Nat) (cv rv : Value) (l : List Col) (ts : List Rw) (w : World) (hB : B ≤ w.heap.size) (hp : Cols w B cv l) (hq : Rws w B rv ts) (er : Int) (hr : wroE l (rr ts) = er) :
    Calls Tryz.prog 51 #[.agg #[cv, rv]] w fun e w' => e = .returned (.int .i64 er) ∧ Below w.heap.size w w' := by
  have HP : Hid (Cols w B cv l) := hp
  have HQ : Hid (Rws w B rv ts) := hq
  have HR : Hid (wroE l (rr ts) = er) := hr
  obtain ⟨a, c, rfl, hc, hl⟩ := hp.slice
  obtain ⟨a2, c2, rfl, hc2, hl2⟩ := hq.slice
  clear hr
  obtain ⟨ec, hec⟩ : ∃ ec, Hid (colE l = ec) := ⟨_, rfl⟩
  have kc := rcolumns_any B _ l (w.alloc (.cells #[.slice a l.length c, .slice a2 ts.length c2] 27)) (by simp; omega) (HP.out.at hB (ba _ _)) ec hec.out
  have d0 : (w.alloc (.cells #[.slice a l.length c, .slice a2 ts.length c2] 27)).cell? ⟨w.heap.size, 0, none⟩ = some (.slice a l.length c) := nc _ _ 0 _ rfl rfl
  have d1 : (w.alloc (.cells #[.slice a l.length c, .slice a2 ts.length c2] 27)).cell? ⟨w.heap.size, 1, none⟩ = some (.slice a2 ts.length c2) := nc _ _ 1 _ rfl rfl
  go_enter Tryz.func51, Tryz.ntmps51
  go_wp2_with fail
  refine kc.mono ?_
  rintro e w1 ⟨rfl, hb1⟩
  have hbw : Below w.heap.size w w1 := bt (ba _ _) hb1
  have f0 : w1.cell? ⟨w.heap.size, 0, none⟩ = some (.slice a l.length c) := (hb1.cell (p := ⟨w.heap.size, 0, none⟩) (by simp)).trans d0
  have f1 : w1.cell? ⟨w.heap.size, 1, none⟩ = some (.slice a2 ts.length c2) := (hb1.cell (p := ⟨w.heap.size, 1, none⟩) (by simp)).trans d1
  have hz1 : w.heap.size < w1.heap.size := by have := hb1.size; simp at this; omega
  clear kc d0 d1 hb1
  by_cases he0 : ec = 0
  · subst he0
    have HE : Hid (wroE l (rr ts) = if 4096 < ts.length then 4 else rowsL l (rr ts)) := by show _ = _; rw [wroE, if_pos hec.out, rr_len]
    by_cases h4 : 4096 < ts.length
    · obtain rfl : 4 = er := by rw [← HR.out, HE.out, if_pos h4]
      go_wp2
      go_ret
      exact ⟨rfl, hbw⟩
    · go_wp2
      go_loopw [20] (fun s wr => ∃ (i : Nat), s = .int .i64 (i : Int) ∧ i ≤ ts.length ∧ Hid (rowsL l ((rr ts).drop i) = er) ∧ wr = w1) (fun s _ => ts.length - (intOf s).toNat)
      case atStart => exact ⟨0, rfl, Nat.zero_le _, by show _ = _; rw [List.drop_zero, ← HR.out, HE.out, if_neg h4], rfl⟩
      case round =>
        obtain ⟨i, rfl, hi, HI, rfl⟩ := hrel
        by_cases h1 : i < ts.length
        · obtain ⟨b, o, sa, sc, xs, rfl, hb, hg, e1, hI⟩ := HQ.out.get hB hbw h1
          have HII : Hid (Ints wr B B (.slice sa xs.length sc) xs) := hI
          have ST : Hid (er = if rowE l xs = 0 then rowsL l ((rr ts).drop (i + 1)) else rowE l xs) := HI.out.symm.trans (rowsL_step (rr_get hg))
          clear hg hI HI
          obtain ⟨ew, hew⟩ : ∃ ew, Hid (rowE l xs = ew) := ⟨_, rfl⟩
          have hBr : B ≤ wr.heap.size := by omega
          have kc := rrow_any B B B _ _ l xs wr hBr (HP.out.at hB hbw) hBr HII.out ew hew.out
          by_cases hw0 : ew = 0
          · subst hw0
            have HI2 : Hid (rowsL l ((rr ts).drop (i + 1)) = er) := by show _ = _; rw [ST.out, if_pos hew.out]
            go_wp2_with fail
            refine kc.mono ?_
            rintro e w2 ⟨rfl, rfl⟩
            go_wp2
            go_roundw
            case rel => exact ⟨i + 1, by go_num, h1, HI2, trivial⟩
            case measure => simp [intOf]; omega
          · have hne : (ew != 0) = true := by simpa using hw0
            obtain rfl : ew = er := by rw [ST.out, hew.out, if_neg hw0]
            go_wp2_with fail
            refine kc.mono ?_
            rintro e w2 ⟨rfl, rfl⟩
            go_wp2
            go_ret
            exact ⟨rfl, hbw⟩
        · obtain rfl : 0 = er := by have := HI.out; rw [List.drop_eq_nil_of_le (by rw [rr_len]; omega)] at this; exact this
          go_wp2
          go_ret
          exact ⟨rfl, hbw⟩
  · have hne : (ec != 0) = true := by simpa using he0
    obtain rfl : ec = er := by rw [← HR.out, wroE, hec.out, if_neg he0]
    go_wp2
    go_ret
    exact ⟨rfl, hbw⟩
end Go.Proofs.YtlndlpjadajelaaGreat.K

namespace Go.Proofs.YtlndlpjadajelaaGreat.K
open Go.RowKit Go.Proofs.YtlndlpjadajelaaGreat.K.Ds

theorem rowOk_at {l : List Col} {r : List Int} (h : RowOk l r) {i : Nat} {c : Col} {v : Int} (hc : l[i]? = some c) (hv : r[i]? = some v) : 0 ≤ v ∧ v < c.2 := by
  induction l generalizing r i with
  | nil => simp at hc
  | cons d l ih =>
    cases r with
    | nil => simp at hv
    | cons x r =>
      cases i with
      | zero => simp at hc hv; subst hc; subst hv; exact ⟨h.1, h.2.1⟩
      | succ i => simp at hc hv; exact ih h.2.2 hc hv
theorem plcF_step {l : List Col} {r : List Int} {i k : Nat} {c : Col} {v : Int} (hc : l[i]? = some c) (hv : r[i]? = some v) : plcF k (l.drop i) (r.drop i) = plcF (k * c.2.toNat + v.toNat) (l.drop (i + 1)) (r.drop (i + 1)) := by
  rw [List.drop_eq_getElem_cons (List.getElem?_eq_some_iff.1 hc).1, (List.getElem?_eq_some_iff.1 hc).2, List.drop_eq_getElem_cons (List.getElem?_eq_some_iff.1 hv).1, (List.getElem?_eq_some_iff.1 hv).2]
  rfl

set_option maxHeartbeats 1000000 in
theorem place_any (B Bi nb : Nat) (v u : Value) (l : List Col) (r : List Int) (w : World) (hB : B ≤ w.heap.size) (hp : Cols w B v l) (hBi : Bi ≤ w.heap.size) (hq : Ints w Bi nb u r) (hs : Szs l) (hle : prd l ≤ 4096) (ho : RowOk l r) (k0 : Nat) (hr : plc l r = k0) :
    Calls Tryz.prog 85 #[v, u] w fun e w' => e = .returned (.int .i64 (k0 : Int)) ∧ Below w.heap.size w w' := by
  have HP : Hid (Cols w B v l) := hp
  have HQ : Hid (Ints w Bi nb u r) := hq
  have HR : Hid (plcF 0 l r = k0) := by show _ = _; rw [plcF_eq ho, hr]; omega
  have HO : Hid (RowOk l r ∧ Szs l ∧ prd l ≤ 4096) := ⟨ho, hs, hle⟩
  have HLN : Hid (r.length = l.length) := ho.len
  obtain ⟨a, c, rfl, hc, hl⟩ := hp.slice
  obtain ⟨a2, c2, rfl, hc2, hl2⟩ := hq.slice
  clear hr hs hle ho
  go_enter Tryz.func85, Tryz.ntmps85
  go_wp2
  go_loopw [5, 10] (fun nv s wr => ∃ (i k : Nat), nv = .int .i64 (k : Int) ∧ s = .int .i64 (i : Int) ∧ i ≤ l.length ∧ Hid (plcF k (l.drop i) (r.drop i) = k0) ∧ Hid (k < prd (l.take i)) ∧ Below w.heap.size w wr) (fun _ s _ => l.length - (intOf s).toNat)
  case atStart => exact ⟨0, 0, rfl, rfl, Nat.zero_le _, by simpa [Hid] using HR.out, by simp [Hid, prd], Below.refl _ _⟩
  case round =>
    obtain ⟨i, k, rfl, rfl, hi, HI, HK, hbl⟩ := hrel
    by_cases h1 : i < l.length
    · obtain ⟨b, o, nm, sz, rfl, hb, hg, c1, c2, hn⟩ := HP.out.get hB hbl h1
      obtain ⟨b2, o2, x, rfl, hb2, _, hg2, e1⟩ := HQ.out.get hBi hbl (i := i) (by have := HLN.out; omega)
      have z1 : (i : Int) < (r.length : Int) := by have := HLN.out; omega
      have hsz := HO.out.2.1 _ (List.mem_of_getElem? hg)
      simp only at hsz
      have hx := rowOk_at HO.out.1 hg hg2
      simp only at hx
      have HI2 : Hid (plcF (k * sz.toNat + x.toNat) (l.drop (i + 1)) (r.drop (i + 1)) = k0) := (plcF_step hg hg2).symm.trans HI.out
      have HK2 : Hid (k * sz.toNat + x.toNat < prd (l.take (i + 1))) := by
        show _ < _
        rw [prd_next hg]
        have h2 : (k + 1) * sz.toNat ≤ prd (l.take i) * sz.toNat := Nat.mul_le_mul_right _ HK.out
        rw [Nat.add_mul] at h2
        simp only
        omega
      have HK3 : Hid (k * sz.toNat + x.toNat ≤ 4096) := by
        have h3 := prd_pre HO.out.2.1 (i + 1)
        have := HK2.out
        have := HO.out.2.2
        show _ ≤ _
        omega
      have HM : Hid ((k : Int) * sz = ((k * sz.toNat : Nat) : Int)) := by
        show _ = _
        rw [Int.natCast_mul, Int.toNat_of_nonneg (by omega)]
      have hw : wrap64 ((k : Int) * sz) = (k : Int) * sz := wrap_id (by have := HM.out; have := HK3.out; omega)
      have hw2 : wrap64 ((k : Int) * sz + x) = (k : Int) * sz + x := wrap_id (by have := HM.out; have := HK3.out; omega)
      have d1 : (wr.alloc (.cells #[.string nm, .int .i64 sz] 74)).cell? ⟨b2, o2 + i, none⟩ = some (.int .i64 x) := ((ba wr _).cell (p := ⟨b2, o2 + i, none⟩) (by have := hbl.size; simp; omega)).trans e1
      clear hg hg2 HI
      go_wp2
      go_quiet (fail)
      go_wp2
      go_roundw
      case rel => exact ⟨i + 1, k * sz.toNat + x.toNat, by have := HM.out; first | go_num | (simp [hw, hw2]; omega), by go_num, h1, HI2, HK2, below_drewN (bal hbl _) _⟩
      case measure => simp [intOf]; omega
    · have HN : Hid (k = k0) := by
        have := HI.out
        rw [List.drop_eq_nil_of_le (by omega)] at this
        exact this
      go_wp2
      go_ret
      exact ⟨by rw [← HN.out]; rfl, hbl⟩
end Go.Proofs.YtlndlpjadajelaaGreat.K
