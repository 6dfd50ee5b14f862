import Derived.Test.YtkpjjiomfgkobaaDoorRow
import Derived.Test.YtkpjjiomfgkobaaDoorRcl
namespace Go.Proofs.YtkpjjiomfgkobaaDoor
open Go.RowKit Go.Proofs.YtkpjjiomfgkobaaDoor.Ds

/-- a row in memory: its value, its numbers -/
abbrev Rw := Value × List Int
/-- ROWS BEHIND A SLICE. -/
def Rws (w : World) (B : Nat) (v : Value) (ts : List Rw) : Prop :=
  ∃ a c, v = .slice a ts.length c ∧ ts.length ≤ c ∧ ts.length ≤ 9223372036854775807 ∧ (∀ t ∈ ts, Ints w B B t.1 t.2) ∧
    (ts ≠ [] → ∃ b o, a = some ⟨b, o, none⟩ ∧ b < B ∧ ∀ i t, ts[i]? = some t → w.cell? ⟨b, o + i, none⟩ = some t.1)
def rr (ts : List Rw) : List (List Int) := ts.map (·.2)
theorem rr_len (ts : List Rw) : (rr ts).length = ts.length := by simp [rr]
theorem rr_get {ts : List Rw} {i : Nat} {t : Rw} (h : ts[i]? = some t) : (rr ts)[i]? = some t.2 := by simp [rr, h]
theorem Rws.keep {w w' : World} {B : Nat} {v : Value} {ts : List Rw} (h : Rws w B v ts) (hb : Below B w w') : Rws w' B v ts := by
  obtain ⟨a, c, hv, hc, hl, hi, hx⟩ := h
  refine ⟨a, c, hv, hc, hl, fun t ht => (hi t ht).keep hb, fun hne => ?_⟩
  obtain ⟨b, o, ha, hB, hcell⟩ := hx hne
  exact ⟨b, o, ha, hB, fun i t ht => (hb.cell (p := ⟨b, o + i, none⟩) hB).trans (hcell i t ht)⟩
theorem Rws.at {w w' : World} {B : Nat} {v : Value} {ts : List Rw} (h : Rws w B v ts) (hB : B ≤ w.heap.size) (hb : Below w.heap.size w w') : Rws w' B v ts := h.keep (hb.mono hB)
theorem Rws.mono {w : World} {B B' : Nat} {v : Value} {ts : List Rw} (h : Rws w B v ts) (hB : B ≤ B') : Rws w B' v ts := by
  obtain ⟨a, c, hv, hc, hl, hi, hx⟩ := h
  refine ⟨a, c, hv, hc, hl, fun t ht => (hi t ht).mono hB (.inr hB), fun hne => ?_⟩
  obtain ⟨b, o, ha, hb, hcell⟩ := hx hne
  exact ⟨b, o, ha, by omega, hcell⟩
theorem Rws.slice {w : World} {B : Nat} {v : Value} {ts : List Rw} (h : Rws w B v ts) : ∃ a c, v = .slice a ts.length c ∧ ts.length ≤ c ∧ ts.length ≤ 9223372036854775807 := by
  obtain ⟨a, c, hv, hc, hl, _⟩ := h
  exact ⟨a, c, hv, hc, hl⟩
theorem Rws.get {w wr : World} {B : Nat} {a : Option Addr} {n c : Nat} {ts : List Rw} (h : Rws w B (.slice a n c) ts) (hB : B ≤ w.heap.size) (hb : Below w.heap.size w wr) {i : Nat} (hi : i < ts.length) :
    ∃ b o sa sc xs, a = some ⟨b, o, none⟩ ∧ b < B ∧ ts[i]? = some (.slice sa xs.length sc, xs) ∧ wr.cell? ⟨b, o + i, none⟩ = some (.slice sa xs.length sc) ∧ Ints wr B B (.slice sa xs.length sc) xs := by
  obtain ⟨a', c', hv, _, _, hin, hx⟩ := h.at hB hb
  simp only [Value.slice.injEq] at hv
  obtain ⟨rfl, rfl, rfl⟩ := hv
  obtain ⟨b, o, rfl, hbB, hcell⟩ := hx (ne_of_lt hi)
  obtain ⟨⟨tv, xs⟩, ht⟩ := get_lt hi
  have hI := hin _ (List.mem_of_getElem? ht)
  obtain ⟨sa, sc, e, _⟩ := hI.slice
  simp only at e
  subst e
  exact ⟨b, o, sa, sc, xs, rfl, hbB, ht, hcell i _ ht, hI⟩

set_option maxHeartbeats 1000000 in
theorem wrong_any (B : Nat) (cv rv : Value) (l : List Col) (ts : List Rw) (w : World) (hB : B ≤ w.heap.size) (hp : Cols w B cv l) (hq : Rws w B rv ts) (er : Int) (hr : wroE l (rr ts) = er) :
    Calls Tryd.prog 35 #[.agg #[cv, rv]] w fun e w' => e = .returned (.int .i64 er) ∧ Below w.heap.size w w' := by
  have HP : Hid (Cols w B cv l) := hp
  have HQ : Hid (Rws w B rv ts) := hq
  have HR : Hid (wroE l (rr ts) = er) := hr
  obtain ⟨a, c, rfl, hc, hl⟩ := hp.slice
  obtain ⟨a2, c2, rfl, hc2, hl2⟩ := hq.slice
  clear hr
  obtain ⟨ec, hec⟩ : ∃ ec, Hid (colE l = ec) := ⟨_, rfl⟩
  have kc := columns_any B _ l (w.alloc (.cells #[.slice a l.length c, .slice a2 ts.length c2] 25)) (by simp; omega) (HP.out.at hB (ba _ _)) ec hec.out
  have d0 : (w.alloc (.cells #[.slice a l.length c, .slice a2 ts.length c2] 25)).cell? ⟨w.heap.size, 0, none⟩ = some (.slice a l.length c) := nc _ _ 0 _ rfl rfl
  have d1 : (w.alloc (.cells #[.slice a l.length c, .slice a2 ts.length c2] 25)).cell? ⟨w.heap.size, 1, none⟩ = some (.slice a2 ts.length c2) := nc _ _ 1 _ rfl rfl
  go_enter Tryd.func35, Tryd.ntmps35
  go_wp2_with fail
  refine kc.mono ?_
  rintro e w1 ⟨rfl, hb1⟩
  have hbw : Below w.heap.size w w1 := bt (ba _ _) hb1
  have f0 : w1.cell? ⟨w.heap.size, 0, none⟩ = some (.slice a l.length c) := (hb1.cell (p := ⟨w.heap.size, 0, none⟩) (by simp)).trans d0
  have f1 : w1.cell? ⟨w.heap.size, 1, none⟩ = some (.slice a2 ts.length c2) := (hb1.cell (p := ⟨w.heap.size, 1, none⟩) (by simp)).trans d1
  have hz1 : w.heap.size < w1.heap.size := by have := hb1.size; simp at this; omega
  clear kc d0 d1 hb1
  by_cases he0 : ec = 0
  · subst he0
    have HE : Hid (wroE l (rr ts) = if 4096 < ts.length then 4 else rowsL l (rr ts)) := by show _ = _; rw [wroE, if_pos hec.out, rr_len]
    by_cases h4 : 4096 < ts.length
    · obtain rfl : 4 = er := by rw [← HR.out, HE.out, if_pos h4]
      go_wp2
      go_ret
      exact ⟨rfl, hbw⟩
    · go_wp2
      go_loopw [20] (fun s wr => ∃ (i : Nat), s = .int .i64 (i : Int) ∧ i ≤ ts.length ∧ Hid (rowsL l ((rr ts).drop i) = er) ∧ wr = w1) (fun s _ => ts.length - (intOf s).toNat)
      case atStart => exact ⟨0, rfl, Nat.zero_le _, by show _ = _; rw [List.drop_zero, ← HR.out, HE.out, if_neg h4], rfl⟩
      case round =>
        obtain ⟨i, rfl, hi, HI, rfl⟩ := hrel
        by_cases h1 : i < ts.length
        · obtain ⟨b, o, sa, sc, xs, rfl, hb, hg, e1, hI⟩ := HQ.out.get hB hbw h1
          have HII : Hid (Ints wr B B (.slice sa xs.length sc) xs) := hI
          have ST : Hid (er = if rowE l xs = 0 then rowsL l ((rr ts).drop (i + 1)) else rowE l xs) := HI.out.symm.trans (rowsL_step (rr_get hg))
          clear hg hI HI
          obtain ⟨ew, hew⟩ : ∃ ew, Hid (rowE l xs = ew) := ⟨_, rfl⟩
          have hBr : B ≤ wr.heap.size := by omega
          have kc := wrongRow_any B B B _ _ l xs wr hBr (HP.out.at hB hbw) hBr HII.out ew hew.out
          by_cases hw0 : ew = 0
          · subst hw0
            have HI2 : Hid (rowsL l ((rr ts).drop (i + 1)) = er) := by show _ = _; rw [ST.out, if_pos hew.out]
            go_wp2_with fail
            refine kc.mono ?_
            rintro e w2 ⟨rfl, rfl⟩
            go_wp2
            go_roundw
            case rel => exact ⟨i + 1, by go_num, h1, HI2, trivial⟩
            case measure => simp [intOf]; omega
          · have hne : (ew != 0) = true := by simpa using hw0
            obtain rfl : ew = er := by rw [ST.out, hew.out, if_neg hw0]
            go_wp2_with fail
            refine kc.mono ?_
            rintro e w2 ⟨rfl, rfl⟩
            go_wp2
            go_ret
            exact ⟨rfl, hbw⟩
        · obtain rfl : 0 = er := by have := HI.out; rw [List.drop_eq_nil_of_le (by rw [rr_len]; omega)] at this; exact this
          go_wp2
          go_ret
          exact ⟨rfl, hbw⟩
  · have hne : (ec != 0) = true := by simpa using he0
    obtain rfl : ec = er := by rw [← HR.out, wroE, hec.out, if_neg he0]
    go_wp2
    go_ret
    exact ⟨rfl, hbw⟩
set_option maxHeartbeats 1000000 in
theorem rwrong_any (B : Nat) (cv rv : Value) (l : List Col) (ts : List Rw) (w : World) (hB : B ≤ w.heap.size) (hp : Cols w B cv l) (hq : Rws w B rv ts) (er : Int) (hr : wroE l (rr ts) = er) :
    Calls Tryd.prog 22 #[.agg #[cv, rv]] w fun e w' => e = .returned (.int .i64 er) ∧ Below w.heap.size w w' := by
  have HP : Hid (Cols w B cv l) := hp
  have HQ : Hid (Rws w B rv ts) := hq
  have HR : Hid (wroE l (rr ts) = er) := hr
  obtain ⟨a, c, rfl, hc, hl⟩ := hp.slice
  obtain ⟨a2, c2, rfl, hc2, hl2⟩ := hq.slice
  clear hr
  obtain ⟨ec, hec⟩ : ∃ ec, Hid (colE l = ec) := ⟨_, rfl⟩
  have kc := rcolumns_any B _ l (w.alloc (.cells #[.slice a l.length c, .slice a2 ts.length c2] 25)) (by simp; omega) (HP.out.at hB (ba _ _)) ec hec.out
  have d0 : (w.alloc (.cells #[.slice a l.length c, .slice a2 ts.length c2] 25)).cell? ⟨w.heap.size, 0, none⟩ = some (.slice a l.length c) := nc _ _ 0 _ rfl rfl
  have d1 : (w.alloc (.cells #[.slice a l.length c, .slice a2 ts.length c2] 25)).cell? ⟨w.heap.size, 1, none⟩ = some (.slice a2 ts.length c2) := nc _ _ 1 _ rfl rfl
  go_enter Tryd.func22, Tryd.ntmps22
  go_wp2_with fail
  refine kc.mono ?_
  rintro e w1 ⟨rfl, hb1⟩
  have hbw : Below w.heap.size w w1 := bt (ba _ _) hb1
  have f0 : w1.cell? ⟨w.heap.size, 0, none⟩ = some (.slice a l.length c) := (hb1.cell (p := ⟨w.heap.size, 0, none⟩) (by simp)).trans d0
  have f1 : w1.cell? ⟨w.heap.size, 1, none⟩ = some (.slice a2 ts.length c2) := (hb1.cell (p := ⟨w.heap.size, 1, none⟩) (by simp)).trans d1
  have hz1 : w.heap.size < w1.heap.size := by have := hb1.size; simp at this; omega
  clear kc d0 d1 hb1
  by_cases he0 : ec = 0
  · subst he0
    have HE : Hid (wroE l (rr ts) = if 4096 < ts.length then 4 else rowsL l (rr ts)) := by show _ = _; rw [wroE, if_pos hec.out, rr_len]
    by_cases h4 : 4096 < ts.length
    · obtain rfl : 4 = er := by rw [← HR.out, HE.out, if_pos h4]
      go_wp2
      go_ret
      exact ⟨rfl, hbw⟩
    · go_wp2
      go_loopw [20] (fun s wr => ∃ (i : Nat), s = .int .i64 (i : Int) ∧ i ≤ ts.length ∧ Hid (rowsL l ((rr ts).drop i) = er) ∧ wr = w1) (fun s _ => ts.length - (intOf s).toNat)
      case atStart => exact ⟨0, rfl, Nat.zero_le _, by show _ = _; rw [List.drop_zero, ← HR.out, HE.out, if_neg h4], rfl⟩
      case round =>
        obtain ⟨i, rfl, hi, HI, rfl⟩ := hrel
        by_cases h1 : i < ts.length
        · obtain ⟨b, o, sa, sc, xs, rfl, hb, hg, e1, hI⟩ := HQ.out.get hB hbw h1
          have HII : Hid (Ints wr B B (.slice sa xs.length sc) xs) := hI
          have ST : Hid (er = if rowE l xs = 0 then rowsL l ((rr ts).drop (i + 1)) else rowE l xs) := HI.out.symm.trans (rowsL_step (rr_get hg))
          clear hg hI HI
          obtain ⟨ew, hew⟩ : ∃ ew, Hid (rowE l xs = ew) := ⟨_, rfl⟩
          have hBr : B ≤ wr.heap.size := by omega
          have kc := rrow_any B B B _ _ l xs wr hBr (HP.out.at hB hbw) hBr HII.out ew hew.out
          by_cases hw0 : ew = 0
          · subst hw0
            have HI2 : Hid (rowsL l ((rr ts).drop (i + 1)) = er) := by show _ = _; rw [ST.out, if_pos hew.out]
            go_wp2_with fail
            refine kc.mono ?_
            rintro e w2 ⟨rfl, rfl⟩
            go_wp2
            go_roundw
            case rel => exact ⟨i + 1, by go_num, h1, HI2, trivial⟩
            case measure => simp [intOf]; omega
          · have hne : (ew != 0) = true := by simpa using hw0
            obtain rfl : ew = er := by rw [ST.out, hew.out, if_neg hw0]
            go_wp2_with fail
            refine kc.mono ?_
            rintro e w2 ⟨rfl, rfl⟩
            go_wp2
            go_ret
            exact ⟨rfl, hbw⟩
        · obtain rfl : 0 = er := by have := HI.out; rw [List.drop_eq_nil_of_le (by rw [rr_len]; omega)] at this; exact this
          go_wp2
          go_ret
          exact ⟨rfl, hbw⟩
  · have hne : (ec != 0) = true := by simpa using he0
    obtain rfl : ec = er := by rw [← HR.out, wroE, hec.out, if_neg he0]
    go_wp2
    go_ret
    exact ⟨rfl, hbw⟩
end Go.Proofs.YtkpjjiomfgkobaaDoor
