import Derived.Test.YtidfkencjdjkbaaGreatDoorQo31
import Derived.Test.YtidfkencjdjkbaaGreatDoorQo30
import Derived.Deep.RegionHeld3
import Derived.BigRegion
import Derived.OwnWalk
import Derived.Laws.MakeOwn
import Derived.Maps.AppendAt
import Derived.Laws.OwnMore
import Derived.Lib.SliceRun
import Derived.RangeFuncBox
import Derived.Laws.EntriesVeiled
namespace Go.Proofs.YtidfkencjdjkbaaGreatDoor.K
open Go.RowKit Go.Proofs.YtidfkencjdjkbaaGreatDoor.K.Ds

/-- a test holds of a value -/
def tstB (d z v : Int) : Bool := if d = 1 then v == z else if d = 2 then decide (v < z) else if d = 3 then decide (v ≤ z) else if d = 4 then decide (z < v) else if d = 5 then decide (z ≤ v) else !(v == z)

/-- holding: which function -/
abbrev holV (d : Int) (p : Nat) : Value := .func (.func (117 + d.toNat)) #[] #[.pointer (some ⟨p, 0, none⟩)]
theorem hold_ok (d z : Int) (w : World) (hd : doB d = true) :
    Calls Tryz.prog 106 #[.int .i64 d, .int .i64 z] w fun e w' => e = .returned (holV d w.heap.size) ∧ w' = w.alloc (.cells #[.int .i64 z] 3) := by
  have hmf := hmf
  simp only [doB, decide_eq_true_eq] at hd
  go_enter Tryz.func106, Tryz.ntmps106
  by_cases h1 : d = 1
  · subst h1; go_wp2; go_ret; exact ⟨rfl, rfl⟩
  by_cases h2 : d = 2
  · subst h2; go_wp2; go_ret; exact ⟨rfl, rfl⟩
  by_cases h3 : d = 3
  · subst h3; go_wp2; go_ret; exact ⟨rfl, rfl⟩
  by_cases h4 : d = 4
  · subst h4; go_wp2; go_ret; exact ⟨rfl, rfl⟩
  by_cases h5 : d = 5
  · subst h5; go_wp2; go_ret; exact ⟨rfl, rfl⟩
  obtain rfl : d = 6 := by omega
  go_wp2; go_ret; exact ⟨rfl, rfl⟩
theorem hold_no (d z : Int) (w : World) (hd : doB d = false) :
    Calls Tryz.prog 106 #[.int .i64 d, .int .i64 z] w fun e w' => e = .panicked (chn 1) ∧ Below w.heap.size w w' := by
  have g1 : (d == 1) = false := by rw [beq_eq_false_iff_ne]; rintro rfl; simp [doB] at hd
  have g2 : (d == 2) = false := by rw [beq_eq_false_iff_ne]; rintro rfl; simp [doB] at hd
  have g3 : (d == 3) = false := by rw [beq_eq_false_iff_ne]; rintro rfl; simp [doB] at hd
  have g4 : (d == 4) = false := by rw [beq_eq_false_iff_ne]; rintro rfl; simp [doB] at hd
  have g5 : (d == 5) = false := by rw [beq_eq_false_iff_ne]; rintro rfl; simp [doB] at hd
  have g6 : (d == 6) = false := by rw [beq_eq_false_iff_ne]; rintro rfl; simp [doB] at hd
  clear hd
  go_enter Tryz.func106, Tryz.ntmps106
  go_wp2
  exact ⟨rfl, rfl, ba _ _⟩
/-- what such a function tells -/
theorem tst_any (d z v : Int) (p : Nat) (w : World) (hd : doB d = true) (hc : w.cell? ⟨p, 0, none⟩ = some (.int .i64 z)) :
    Calls Tryz.prog (117 + d.toNat) #[.int .i64 v, .pointer (some ⟨p, 0, none⟩)] w fun e w' => e = .returned (.bool (tstB d z v)) ∧ w' = w := by
  simp only [doB, decide_eq_true_eq] at hd
  by_cases h1 : d = 1
  · subst h1; go_enter Tryz.func118, Tryz.ntmps118; go_wp2; go_ret; exact ⟨rfl, rfl⟩
  by_cases h2 : d = 2
  · subst h2; go_enter Tryz.func119, Tryz.ntmps119; go_wp2; go_ret; exact ⟨rfl, rfl⟩
  by_cases h3 : d = 3
  · subst h3; go_enter Tryz.func120, Tryz.ntmps120; go_wp2; go_ret; exact ⟨rfl, rfl⟩
  by_cases h4 : d = 4
  · subst h4; go_enter Tryz.func121, Tryz.ntmps121; go_wp2; go_ret; exact ⟨rfl, rfl⟩
  by_cases h5 : d = 5
  · subst h5; go_enter Tryz.func122, Tryz.ntmps122; go_wp2; go_ret; exact ⟨rfl, rfl⟩
  obtain rfl : d = 6 := by omega
  go_enter Tryz.func123, Tryz.ntmps123; go_wp2; go_ret; exact ⟨rfl, rfl⟩
end Go.Proofs.YtidfkencjdjkbaaGreatDoor.K

namespace Go.Proofs.YtidfkencjdjkbaaGreatDoor.K
open Go.RowKit Go.Proofs.YtidfkencjdjkbaaGreatDoor.K.Ds

theorem Ints.slice {w : World} {B nb : Nat} {v : Value} {xs : List Int} (h : Ints w B nb v xs) : ∃ a c, v = .slice a xs.length c ∧ xs.length ≤ c ∧ xs.length ≤ 9223372036854775807 := by
  obtain ⟨a, c, hv, hc, hl, _⟩ := h
  exact ⟨a, c, hv, hc, hl⟩
theorem Ints.get {w wr : World} {B nb : Nat} {a : Option Addr} {n c : Nat} {xs : List Int} (h : Ints w B nb (.slice a n c) xs) (hB : B ≤ w.heap.size) (hb : Below w.heap.size w wr) {i : Nat} (hi : i < xs.length) :
    ∃ b o x, a = some ⟨b, o, none⟩ ∧ b < B ∧ b ≠ nb ∧ xs[i]? = some x ∧ wr.cell? ⟨b, o + i, none⟩ = some (.int .i64 x) := by
  obtain ⟨a', c', hv, _, _, hx⟩ := h.at hB hb
  simp only [Value.slice.injEq] at hv
  obtain ⟨rfl, rfl, rfl⟩ := hv
  obtain ⟨b, o, rfl, hbB, hn, hcell⟩ := hx (ne_of_lt hi)
  obtain ⟨x, hx⟩ := get_lt hi
  exact ⟨b, o, x, rfl, hbB, hn, hx, hcell i _ hx⟩

set_option maxHeartbeats 1000000 in
theorem wrongRow_any (B Bi nb : Nat) (v u : Value) (l : List Col) (r : List Int) (w : World) (hB : B ≤ w.heap.size) (hp : Cols w B v l) (hBi : Bi ≤ w.heap.size) (hq : Ints w Bi nb u r) (er : Int) (hr : rowE l r = er) :
    Calls Tryz.prog 53 #[v, u] w fun e w' => e = .returned (.int .i64 er) ∧ w' = w := by
  have HP : Hid (Cols w B v l) := hp
  have HQ : Hid (Ints w Bi nb u r) := hq
  have HR : Hid (rowE l r = er) := hr
  obtain ⟨a, c, rfl, hc, hl⟩ := hp.slice
  obtain ⟨a2, c2, rfl, hc2, hl2⟩ := hq.slice
  clear hr
  go_enter Tryz.func53, Tryz.ntmps53
  by_cases hlen : l.length = r.length
  · have hle : (((r.length : Int)) != (l.length : Int)) = false := by simp [hlen]
    have HLN : Hid (l.length = r.length) := hlen
    have HE : Hid (rowE l r = rowL l r) := by show _ = _; rw [rowE, if_pos hlen]
    clear hlen
    go_wp2
    go_loopw [14] (fun s wr => ∃ (i : Nat), s = .int .i64 (i : Int) ∧ i ≤ r.length ∧ Hid (rowL (l.drop i) (r.drop i) = er) ∧ wr = w) (fun s _ => r.length - (intOf s).toNat)
    case atStart => exact ⟨0, rfl, Nat.zero_le _, by show _ = _; simpa using HE.out.symm.trans HR.out, rfl⟩
    case round =>
      obtain ⟨i, rfl, hi, HI, rfl⟩ := hrel
      by_cases h1 : i < r.length
      · obtain ⟨b, o, nm, sz, rfl, hb, hg, c1, c2, hn⟩ := HP.out.get hB (Below.refl _ _) (i := i) (by have := HLN.out; omega)
        obtain ⟨b2, o2, x, rfl, hb2, _, hg2, e1⟩ := HQ.out.get hBi (Below.refl _ _) h1
        have z1 : (i : Int) < (l.length : Int) := by have := HLN.out; omega
        have ST : Hid (er = if x < 0 ∨ sz ≤ x then 3 else rowL (l.drop (i + 1)) (r.drop (i + 1))) := HI.out.symm.trans (rowL_step hg hg2)
        clear hg hg2 HI
        by_cases hx0 : x < 0
        · obtain rfl : er = 3 := by rw [ST.out, if_pos (.inl hx0)]
          go_wp2
          go_ret
          exact ⟨rfl, rfl⟩
        · by_cases hx1 : sz ≤ x
          · obtain rfl : er = 3 := by rw [ST.out, if_pos (.inr hx1)]
            go_wp2
            go_ret
            exact ⟨rfl, rfl⟩
          · have HI2 : Hid (rowL (l.drop (i + 1)) (r.drop (i + 1)) = er) := by show _ = _; rw [ST.out, if_neg (by omega)]
            go_wp2
            go_roundw
            case rel => exact ⟨i + 1, by go_num, h1, HI2, trivial⟩
            case measure => simp [intOf]; omega
      · obtain rfl : 0 = er := by have := HI.out; rw [show r.drop i = [] from List.drop_eq_nil_of_le (by omega)] at this; rw [← this]; cases l.drop i <;> rfl
        go_wp2
        go_ret
        exact ⟨rfl, rfl⟩
  · have hle : (((r.length : Int)) != (l.length : Int)) = true := by simp; omega
    obtain rfl : 8 = er := by rw [← HR.out, rowE, if_neg hlen]
    go_wp2
    go_ret
    exact ⟨rfl, rfl⟩

end Go.Proofs.YtidfkencjdjkbaaGreatDoor.K

namespace Go.Proofs.YtidfkencjdjkbaaGreatDoor.K
open Go.RowKit Go.Proofs.YtidfkencjdjkbaaGreatDoor.K.Ds

end Go.Proofs.YtidfkencjdjkbaaGreatDoor.K

namespace Go.Proofs.YtidfkencjdjkbaaGreatDoor.K
open Go.RowKit Go.Proofs.YtidfkencjdjkbaaGreatDoor.K.Ds

/-- a row in memory: its value, its numbers -/
abbrev Rw := Value × List Int
/-- ROWS BEHIND A SLICE. -/
def Rws (w : World) (B : Nat) (v : Value) (ts : List Rw) : Prop :=
  ∃ a c, v = .slice a ts.length c ∧ ts.length ≤ c ∧ ts.length ≤ 9223372036854775807 ∧ (∀ t ∈ ts, Ints w B B t.1 t.2) ∧
    (ts ≠ [] → ∃ b o, a = some ⟨b, o, none⟩ ∧ b < B ∧ ∀ i t, ts[i]? = some t → w.cell? ⟨b, o + i, none⟩ = some t.1)
def rr (ts : List Rw) : List (List Int) := ts.map (·.2)
theorem rr_len (ts : List Rw) : (rr ts).length = ts.length := by simp [rr]
theorem rr_get {ts : List Rw} {i : Nat} {t : Rw} (h : ts[i]? = some t) : (rr ts)[i]? = some t.2 := by simp [rr, h]
theorem Rws.keep {w w' : World} {B : Nat} {v : Value} {ts : List Rw} (h : Rws w B v ts) (hb : Below B w w') : Rws w' B v ts := by
  obtain ⟨a, c, hv, hc, hl, hi, hx⟩ := h
  refine ⟨a, c, hv, hc, hl, fun t ht => (hi t ht).keep hb, fun hne => ?_⟩
  obtain ⟨b, o, ha, hB, hcell⟩ := hx hne
  exact ⟨b, o, ha, hB, fun i t ht => (hb.cell (p := ⟨b, o + i, none⟩) hB).trans (hcell i t ht)⟩
theorem Rws.at {w w' : World} {B : Nat} {v : Value} {ts : List Rw} (h : Rws w B v ts) (hB : B ≤ w.heap.size) (hb : Below w.heap.size w w') : Rws w' B v ts := h.keep (hb.mono hB)
theorem Rws.mono {w : World} {B B' : Nat} {v : Value} {ts : List Rw} (h : Rws w B v ts) (hB : B ≤ B') : Rws w B' v ts := by
  obtain ⟨a, c, hv, hc, hl, hi, hx⟩ := h
  refine ⟨a, c, hv, hc, hl, fun t ht => (hi t ht).mono hB (.inr hB), fun hne => ?_⟩
  obtain ⟨b, o, ha, hb, hcell⟩ := hx hne
  exact ⟨b, o, ha, by omega, hcell⟩
theorem Rws.slice {w : World} {B : Nat} {v : Value} {ts : List Rw} (h : Rws w B v ts) : ∃ a c, v = .slice a ts.length c ∧ ts.length ≤ c ∧ ts.length ≤ 9223372036854775807 := by
  obtain ⟨a, c, hv, hc, hl, _⟩ := h
  exact ⟨a, c, hv, hc, hl⟩
theorem Rws.get {w wr : World} {B : Nat} {a : Option Addr} {n c : Nat} {ts : List Rw} (h : Rws w B (.slice a n c) ts) (hB : B ≤ w.heap.size) (hb : Below w.heap.size w wr) {i : Nat} (hi : i < ts.length) :
    ∃ b o sa sc xs, a = some ⟨b, o, none⟩ ∧ b < B ∧ ts[i]? = some (.slice sa xs.length sc, xs) ∧ wr.cell? ⟨b, o + i, none⟩ = some (.slice sa xs.length sc) ∧ Ints wr B B (.slice sa xs.length sc) xs := by
  obtain ⟨a', c', hv, _, _, hin, hx⟩ := h.at hB hb
  simp only [Value.slice.injEq] at hv
  obtain ⟨rfl, rfl, rfl⟩ := hv
  obtain ⟨b, o, rfl, hbB, hcell⟩ := hx (ne_of_lt hi)
  obtain ⟨⟨tv, xs⟩, ht⟩ := get_lt hi
  have hI := hin _ (List.mem_of_getElem? ht)
  obtain ⟨sa, sc, e, _⟩ := hI.slice
  simp only at e
  subst e
  exact ⟨b, o, sa, sc, xs, rfl, hbB, ht, hcell i _ ht, hI⟩

set_option maxHeartbeats 1000000 in
theorem wrong_any (B : Nat) (cv rv : Value) (l : List Col) (ts : List Rw) (w : World) (hB : B ≤ w.heap.size) (hp : Cols w B cv l) (hq : Rws w B rv ts) (er : Int) (hr : wroE l (rr ts) = er) :
    Calls Tryz.prog 28 #[.agg #[cv, rv]] w fun e w' => e = .returned (.int .i64 er) ∧ Below w.heap.size w w' := by
  have HP : Hid (Cols w B cv l) := hp
  have HQ : Hid (Rws w B rv ts) := hq
  have HR : Hid (wroE l (rr ts) = er) := hr
  obtain ⟨a, c, rfl, hc, hl⟩ := hp.slice
  obtain ⟨a2, c2, rfl, hc2, hl2⟩ := hq.slice
  clear hr
  obtain ⟨ec, hec⟩ : ∃ ec, Hid (colE l = ec) := ⟨_, rfl⟩
  have kc := columns_any B _ l (w.alloc (.cells #[.slice a l.length c, .slice a2 ts.length c2] 33)) (by simp; omega) (HP.out.at hB (ba _ _)) ec hec.out
  have d0 : (w.alloc (.cells #[.slice a l.length c, .slice a2 ts.length c2] 33)).cell? ⟨w.heap.size, 0, none⟩ = some (.slice a l.length c) := nc _ _ 0 _ rfl rfl
  have d1 : (w.alloc (.cells #[.slice a l.length c, .slice a2 ts.length c2] 33)).cell? ⟨w.heap.size, 1, none⟩ = some (.slice a2 ts.length c2) := nc _ _ 1 _ rfl rfl
  go_enter Tryz.func28, Tryz.ntmps28
  go_wp2_with fail
  refine kc.mono ?_
  rintro e w1 ⟨rfl, hb1⟩
  have hbw : Below w.heap.size w w1 := bt (ba _ _) hb1
  have f0 : w1.cell? ⟨w.heap.size, 0, none⟩ = some (.slice a l.length c) := (hb1.cell (p := ⟨w.heap.size, 0, none⟩) (by simp)).trans d0
  have f1 : w1.cell? ⟨w.heap.size, 1, none⟩ = some (.slice a2 ts.length c2) := (hb1.cell (p := ⟨w.heap.size, 1, none⟩) (by simp)).trans d1
  have hz1 : w.heap.size < w1.heap.size := by have := hb1.size; simp at this; omega
  clear kc d0 d1 hb1
  by_cases he0 : ec = 0
  · subst he0
    have HE : Hid (wroE l (rr ts) = if 4096 < ts.length then 4 else rowsL l (rr ts)) := by show _ = _; rw [wroE, if_pos hec.out, rr_len]
    by_cases h4 : 4096 < ts.length
    · obtain rfl : 4 = er := by rw [← HR.out, HE.out, if_pos h4]
      go_wp2
      go_ret
      exact ⟨rfl, hbw⟩
    · go_wp2
      go_loopw [20] (fun s wr => ∃ (i : Nat), s = .int .i64 (i : Int) ∧ i ≤ ts.length ∧ Hid (rowsL l ((rr ts).drop i) = er) ∧ wr = w1) (fun s _ => ts.length - (intOf s).toNat)
      case atStart => exact ⟨0, rfl, Nat.zero_le _, by show _ = _; rw [List.drop_zero, ← HR.out, HE.out, if_neg h4], rfl⟩
      case round =>
        obtain ⟨i, rfl, hi, HI, rfl⟩ := hrel
        by_cases h1 : i < ts.length
        · obtain ⟨b, o, sa, sc, xs, rfl, hb, hg, e1, hI⟩ := HQ.out.get hB hbw h1
          have HII : Hid (Ints wr B B (.slice sa xs.length sc) xs) := hI
          have ST : Hid (er = if rowE l xs = 0 then rowsL l ((rr ts).drop (i + 1)) else rowE l xs) := HI.out.symm.trans (rowsL_step (rr_get hg))
          clear hg hI HI
          obtain ⟨ew, hew⟩ : ∃ ew, Hid (rowE l xs = ew) := ⟨_, rfl⟩
          have hBr : B ≤ wr.heap.size := by omega
          have kc := wrongRow_any B B B _ _ l xs wr hBr (HP.out.at hB hbw) hBr HII.out ew hew.out
          by_cases hw0 : ew = 0
          · subst hw0
            have HI2 : Hid (rowsL l ((rr ts).drop (i + 1)) = er) := by show _ = _; rw [ST.out, if_pos hew.out]
            go_wp2_with fail
            refine kc.mono ?_
            rintro e w2 ⟨rfl, rfl⟩
            go_wp2
            go_roundw
            case rel => exact ⟨i + 1, by go_num, h1, HI2, trivial⟩
            case measure => simp [intOf]; omega
          · have hne : (ew != 0) = true := by simpa using hw0
            obtain rfl : ew = er := by rw [ST.out, hew.out, if_neg hw0]
            go_wp2_with fail
            refine kc.mono ?_
            rintro e w2 ⟨rfl, rfl⟩
            go_wp2
            go_ret
            exact ⟨rfl, hbw⟩
        · obtain rfl : 0 = er := by have := HI.out; rw [List.drop_eq_nil_of_le (by rw [rr_len]; omega)] at this; exact this
          go_wp2
          go_ret
          exact ⟨rfl, hbw⟩
  · have hne : (ec != 0) = true := by simpa using he0
    obtain rfl : ec = er := by rw [← HR.out, wroE, hec.out, if_neg he0]
    go_wp2
    go_ret
    exact ⟨rfl, hbw⟩
end Go.Proofs.YtidfkencjdjkbaaGreatDoor.K

namespace Go.Proofs.YtidfkencjdjkbaaGreatDoor.K
open Go.RowKit Go.Proofs.YtidfkencjdjkbaaGreatDoor.K.Ds

end Go.Proofs.YtidfkencjdjkbaaGreatDoor.K

namespace Go.Proofs.YtidfkencjdjkbaaGreatDoor.K
open Go.RowKit Go.Proofs.YtidfkencjdjkbaaGreatDoor.K.Ds

theorem info3 : (Tryz.prog.info? 3).map (fun i => (i.zero, i.size, i.bytes)) = some (some (.int .i64 0), 1, 8) := by kernel_rfl

/-- 'make' of n numbers -/
theorem make_ints (n : Nat) (hn : n ≤ 1073741824) (u : World) : (Instr.makeSlice 39 (.int .i64 (n : Int)) (.int .i64 (n : Int))).run Tryz.prog u =
    .ok (.slice (some ⟨u.heap.size, 0, none⟩) n n) (u.alloc (.cells (madeCells #[.int .i64 0] n) 3)) := by
  obtain ⟨i0, hi, hz0, hz1, hz2⟩ := info_parts info3
  have h := run_make (P := Tryz.prog) u 39 3 i0 (.int .i64 0) Tryz.underlying39 hi hz0 .i64 .i64 (n : Int) (n : Int) (by omega) (Int.le_refl _) (by rw [hz2]; omega) (by omega)
  rw [Int.toNat_natCast] at h
  simpa [hz1, Value.cells] using h

end Go.Proofs.YtidfkencjdjkbaaGreatDoor.K

namespace Go.Proofs.YtidfkencjdjkbaaGreatDoor.K
open Go.RowKit Go.Proofs.YtidfkencjdjkbaaGreatDoor.K.Ds

theorem frozen_zero {w : World} {g j : Nat} {cur : Array Value} {e : TypeId} (h : w.heap[g]? = some (.cells cur e (0, 0))) : w.frozen? ⟨g, j, none⟩ = false := by
  simp [World.frozen?, h]
theorem owns_below {w w' : World} {base : Nat} {e : TypeId} {size : Nat} {v : Value} {n : Nat} {xs : List Value} (h : w.ownsRow base e size v n xs) (hb : Below w.heap.size w w') : w'.ownsRow base e size v n xs := by
  obtain ⟨h1, h2⟩ := h
  refine ⟨h1, ?_⟩
  rcases h2 with h2 | ⟨g, cap, cur, hv, hg, hcur, h3⟩
  · exact .inl h2
  · exact .inr ⟨g, cap, cur, hv, hg, by rw [hb.block g (Array.getElem?_eq_some_iff.1 hcur).1]; exact hcur, h3⟩
theorem owns_slice {w : World} {base : Nat} {e : TypeId} {size : Nat} {v : Value} {n : Nat} {xs : List Value} (h : w.ownsRow base e size v n xs) : ∃ a c, v = .slice a n c := by
  obtain ⟨_, ⟨rfl, rfl⟩ | ⟨g, cap, cur, rfl, _⟩⟩ := h
  · exact ⟨_, _, rfl⟩
  · exact ⟨_, _, rfl⟩
theorem owns_some {w : World} {base : Nat} {e : TypeId} {size : Nat} {v : Value} {n : Nat} {xs : List Value} (h : w.ownsRow base e size v n xs) (hne : v ≠ .slice none 0 0) : ∃ g c, v = .slice (some ⟨g, 0, none⟩) n c ∧ base ≤ g ∧ g < w.heap.size := by
  obtain ⟨_, ⟨rfl, rfl⟩ | ⟨g, cap, cur, rfl, hb, hcur, _⟩⟩ := h
  · exact absurd rfl hne
  · exact ⟨g, cap, rfl, hb, (Array.getElem?_eq_some_iff.1 hcur).1⟩
theorem rws_nil (w : World) (B : Nat) : Rws w B (.slice none 0 0) [] := ⟨none, 0, rfl, Nat.le_refl _, by simp, by simp, fun h => absurd rfl h⟩
end Go.Proofs.YtidfkencjdjkbaaGreatDoor.K

namespace Go.Proofs.YtidfkencjdjkbaaGreatDoor.K
open Go.RowKit Go.Proofs.YtidfkencjdjkbaaGreatDoor.K.Ds

theorem Boxed.at {w w' : World} {b : Nat} {t : TypeId} {v : Value} (h : Boxed w b t v) (hb : Below w.heap.size w w') : Boxed w' b t v := (hb.block b h.lt).trans h
/-- a test as a function: of place a, with d, z -/
def Tcl (w : World) (V : Value) (e : Nat × Int × Int) : Prop :=
  ∃ h i p, V = .func (.func 107) #[] #[.pointer (some ⟨h, 0, none⟩), .pointer (some ⟨i, 0, none⟩)] ∧ Boxed w h 88 (holV e.2.1 p) ∧ Boxed w i 3 (.int .i64 (e.1 : Int)) ∧ Boxed w p 3 (.int .i64 e.2.2)
theorem Tcl.at {w w' : World} {V : Value} {e : Nat × Int × Int} (h : Tcl w V e) (hb : Below w.heap.size w w') : Tcl w' V e := by
  obtain ⟨h, i, p, e, h1, h2, h3⟩ := h
  exact ⟨h, i, p, e, Boxed.at h1 hb, Boxed.at h2 hb, Boxed.at h3 hb⟩
/-- all of them, behind a slice of one's own -/
def Tcs (w : World) (lo : Nat) (v : Value) (es : List (Value × Nat × Int × Int)) : Prop :=
  w.ownsRow lo 128 1 v es.length (es.map (·.1)) ∧ ∀ e ∈ es, Tcl w e.1 e.2
theorem Tcs.at {w w' : World} {lo : Nat} {v : Value} {es : List (Value × Nat × Int × Int)} (h : Tcs w lo v es) (hb : Below w.heap.size w w') : Tcs w' lo v es :=
  ⟨owns_below h.1 hb, fun e he => (h.2 e he).at hb⟩
theorem Tcl.grow {w w' : World} {V v : Value} {e : Nat × Int × Int} {lo n : Nat} {xs : List Value} (h : Tcl w V e) (hr : w.ownsRow lo 128 1 v n xs) (hg : w.grownBy w' v.ownBlock) : Tcl w' V e := by
  obtain ⟨h, i, p, e, h1, h2, h3⟩ := h
  exact ⟨h, i, p, e, h1.kept hg (h1.not_row (by decide) hr), h2.kept hg (h2.not_row (by decide) hr), h3.kept hg (h3.not_row (by decide) hr)⟩
theorem Tcl.setb {w : World} {V u v : Value} {e : Nat × Int × Int} {A : Nat} (h : Tcl w V e) (hA : Boxed w A 140 u) : Tcl (w.setCell ⟨A, 0, none⟩ v) V e := by
  have ne : ∀ {b : Nat} {t : TypeId} {x : Value}, Boxed w b t x → t ≠ 140 → some b ≠ some A := by
    intro b t x hb ht e
    simp only [Option.some.injEq] at e
    subst e
    have := (show w.heap[b]? = _ from hb).symm.trans (show w.heap[b]? = _ from hA)
    simp at this
    exact ht this.2
  obtain ⟨h, i, p, e, h1, h2, h3⟩ := h
  exact ⟨h, i, p, e, h1.kept (grownBy_setCell' _ _ _) (ne h1 (by decide)), h2.kept (grownBy_setCell' _ _ _) (ne h2 (by decide)), h3.kept (grownBy_setCell' _ _ _) (ne h3 (by decide))⟩

def trp (l : List Col) (t : Tst) : Nat × Int × Int := ((Ds.fnd l t.1).getD 0, t.2.1, t.2.2)
/-- what passing answers -/
def PasP (w : World) (ps : List (Nat × Int × Int)) (er : Int) (e : Ending) (w' : World) : Prop :=
  Below w.heap.size w w' ∧ ((er = 0 ∧ ∃ A sv es, w.heap.size ≤ A ∧ e = .returned (.func (.func 108) #[] #[.pointer (some ⟨A, 0, none⟩)]) ∧ Boxed w' A 140 sv ∧ Tcs w' w.heap.size sv es ∧ es.map (·.2) = ps) ∨ (er ≠ 0 ∧ e = .panicked (chn er)))
theorem info94 : (Tryz.prog.info? 128).map (fun i => (i.zero, i.size, i.bytes)) = some (some .nilFunc, 1, 8) := by kernel_rfl

set_option maxHeartbeats 4000000 in
set_option maxRecDepth 100000 in
theorem passing_any (B : Nat) (lv v : Value) (l : List Col) (wh : List Tst) (w : World) (hB : B ≤ w.heap.size) (hp : Cols w B lv l) (hq : Tss w B v wh) (er : Int) (hr : whE l wh = er) :
    Calls Tryz.prog 90 #[lv, v] w fun e w' => PasP w (wh.map (trp l)) er e w' := by
  have HP : Hid (Cols w B lv l) := hp
  have HQ : Hid (Tss w B v wh) := hq
  have HR : Hid (whE l wh = er) := hr
  obtain ⟨a, c, rfl, hc, hl⟩ := hq.slice
  obtain ⟨a', c', rfl, hc', hl'⟩ := hp.slice
  obtain ⟨i0, hi0, hz0, hz1, hz2⟩ := info_parts info94
  have hmf := hmf
  clear hr
  go_enter Tryz.func90, Tryz.ntmps90
  by_cases h64 : 64 < wh.length
  · obtain rfl : 4 = er := by rw [← HR.out, whE, if_pos h64]
    have hle : ¬ (wh.length : Int) ≤ 64 := by omega
    go_wp2_with fail
    refine (must_no 4 w).mono ?_
    rintro e w2 ⟨rfl, rfl⟩
    go_wp2
    exact ⟨rfl, Below.refl _ _, .inr ⟨by decide, rfl⟩⟩
  have HR2 : Hid (tsE l wh = er) := by have := HR.out; rwa [whE, if_neg h64] at this
  have hle : (wh.length : Int) ≤ 64 := by omega
  go_wp2_with fail
  refine (must_ok 4 w).mono ?_
  rintro e w2 ⟨rfl, rfl⟩
  go_wp2
  go_loopw [16] (fun s wr => ∃ (i : Nat), s = .int .i64 (i : Int) ∧ i ≤ wh.length ∧ Hid (tsE l (wh.drop i) = er) ∧ Below w2.heap.size w2 wr ∧
    ∃ sv es, Boxed wr w2.heap.size 140 sv ∧ Tcs wr w2.heap.size sv es ∧ es.map (·.2) = (wh.take i).map (trp l)) (fun s _ => wh.length - (intOf s).toNat)
  case atStart => exact ⟨0, rfl, Nat.zero_le _, by simpa [Hid] using HR2.out, ba _ _, .slice none 0 0, [], Boxed.new _ _ _, ⟨⟨rfl, .inl ⟨rfl, rfl⟩⟩, fun e he => by cases he⟩, by simp⟩
  case round =>
    obtain ⟨i, rfl, hi, HI, hbl, sv, es, hbx, hts, hes⟩ := hrel
    have HBX : Hid (Boxed wr w2.heap.size 140 sv) := hbx
    have HT : Hid (Tcs wr w2.heap.size sv es) := hts
    have HES : Hid (es.map (·.2) = (wh.take i).map (trp l)) := hes
    have hsz := hbl.size
    clear hbx hes
    obtain ⟨sa, sc, rfl⟩ := owns_slice hts.1
    clear hts
    by_cases h1 : i < wh.length
    · obtain ⟨b, o, nm, d, z, rfl, hb, hgt, c1, c2, c3, hn⟩ := HQ.out.get hB hbl h1
      have HG : Hid (wh[i]? = some (nm, d, z)) := hgt
      have HST : Hid (tsE l (wh.drop i) = if (Ds.fnd l nm).isSome then (if doB d then tsE l (wh.drop (i + 1)) else 1) else 7) := tsE_step hgt
      have kcol : Cols (wr.alloc (.cells #[.string nm, .int .i64 d, .int .i64 z] 81)) B (.slice a' l.length c') l := (HP.out.at hB hbl).at (by omega) (ba _ _)
      clear hgt
      cases hf : Ds.fnd l nm with
      | none =>
        obtain rfl : 7 = er := by rw [← HI.out, HST.out, hf]; rfl
        have k1 := find_no B _ l nm _ (by simp; omega) kcol hf
        clear hf kcol
        go_wp2_with fail
        refine k1.mono ?_
        rintro e w3 ⟨rfl, hb3⟩
        go_wp2
        exact ⟨rfl, bt (bal hbl _) hb3, .inr ⟨by decide, rfl⟩⟩
      | some p =>
        have k1 := find_ok B _ l nm _ (by simp; omega) kcol p hf
        have HF : Hid (Ds.fnd l nm = some p) := hf
        clear hf kcol
        go_wp2_with fail
        refine k1.mono ?_
        rintro e w3 ⟨rfl, hb3⟩
        clear k1
        have e0 : Cl w3 wr.heap.size 0 (.string nm) := (Cl.new (w := wr) #[.string nm, .int .i64 d, .int .i64 z] 81 0 _ rfl rfl).at hb3
        have e1 : Cl w3 wr.heap.size 1 (.int .i64 d) := (Cl.new (w := wr) #[.string nm, .int .i64 d, .int .i64 z] 81 1 _ rfl rfl).at hb3
        have e2 : Cl w3 wr.heap.size 2 (.int .i64 z) := (Cl.new (w := wr) #[.string nm, .int .i64 d, .int .i64 z] 81 2 _ rfl rfl).at hb3
        have hb3' : Below wr.heap.size wr w3 := bt (ba _ _) hb3
        have t1 := (e1.at (ba w3 (.cells #[.int .i64 (p : Int)] 3))).c
        have t2 := (e2.at (ba w3 (.cells #[.int .i64 (p : Int)] 3))).c
        cases hd : doB d with
        | false =>
          obtain rfl : 1 = er := by rw [← HI.out, HST.out, HF.out, hd]; rfl
          have k2 := hold_no d z (w3.alloc (.cells #[.int .i64 (p : Int)] 3)) hd
          clear hd
          go_wp2_with fail
          refine k2.mono ?_
          rintro e w4 ⟨rfl, hb4⟩
          go_wp2
          exact ⟨rfl, bt (bt hbl (bt hb3' (ba _ _))) hb4, .inr ⟨by decide, rfl⟩⟩
        | true =>
          have k2 := hold_ok d z (w3.alloc (.cells #[.int .i64 (p : Int)] 3)) hd
          have HI2 : Hid (tsE l (wh.drop (i + 1)) = er) := by have := HI.out; rwa [HST.out, HF.out, hd] at this
          clear hd
          go_wp2_with fail
          refine k2.mono ?_
          rintro e w4 ⟨rfl, hw4⟩
          have es1 : (w3.alloc (.cells #[.int .i64 (p : Int)] 3)).heap.size = w3.heap.size + 1 := by simp
          rw [es1]
          have hs4 : Hid (w4.heap.size = w3.heap.size + 2) := by show _ = _; rw [hw4]; simp
          have X1 : Boxed w4 w3.heap.size 3 (.int .i64 (p : Int)) := by rw [hw4]; exact (Boxed.new w3 3 _).alloc _
          have X2 : Boxed w4 (w3.heap.size + 1) 3 (.int .i64 z) := by rw [hw4]; have := Boxed.new (w3.alloc (.cells #[.int .i64 (p : Int)] 3)) 3 (.int .i64 z); rwa [es1] at this
          have hb34 : Below w3.heap.size w3 w4 := by rw [hw4]; exact bal (ba _ _) _
          have hb4 : Below wr.heap.size wr w4 := bt hb3' hb34
          clear hw4 k2 t1 t2 e0 e1 e2 hb3 hb34 es1
          obtain ⟨W5, hW5⟩ : ∃ W5, w4.alloc (.cells #[holV d (w3.heap.size + 1)] 88) = W5 := ⟨_, rfl⟩
          have hb5 : Below wr.heap.size wr W5 := by rw [← hW5]; exact bal hb4 _
          have hs5 : Hid (W5.heap.size = w4.heap.size + 1) := by show _ = _; rw [← hW5]; simp
          have Y1 := Boxed.at X1 (by rw [← hW5]; exact ba _ _ : Below w4.heap.size w4 W5)
          have Y2 := Boxed.at X2 (by rw [← hW5]; exact ba _ _ : Below w4.heap.size w4 W5)
          have Y3 : Boxed W5 w4.heap.size 88 (holV d (w3.heap.size + 1)) := by rw [← hW5]; exact Boxed.new w4 88 _
          have YA : Boxed W5 w2.heap.size 140 (.slice sa es.length sc) := Boxed.at HBX.out hb5
          have YT : Tcs W5 w2.heap.size (.slice sa es.length sc) es := HT.out.at hb5
          have tA := YA.cell
          have HY : Hid (Boxed W5 w3.heap.size 3 (.int .i64 (p : Int)) ∧ Boxed W5 (w3.heap.size + 1) 3 (.int .i64 z) ∧ Boxed W5 w4.heap.size 88 (holV d (w3.heap.size + 1)) ∧ Boxed W5 w2.heap.size 140 (.slice sa es.length sc) ∧ Tcs W5 w2.heap.size (.slice sa es.length sc) es) := ⟨Y1, Y2, Y3, YA, YT⟩
          clear Y1 Y2 Y3 X1 X2 YA YT
          have HW5 : Hid (w4.alloc (.cells #[holV d (w3.heap.size + 1)] 88) = W5) := hW5
          have tA2 : (w4.alloc (.cells #[holV d (w3.heap.size + 1)] 88)).cell? ⟨w2.heap.size, 0, none⟩ = some (.slice sa es.length sc) := by rw [hW5]; exact tA
          have HO : Hid (((w4.alloc (.cells #[holV d (w3.heap.size + 1)] 88)).alloc (.cells #[.func (.func 107) #[] #[.pointer (some ⟨w4.heap.size, 0, none⟩), .pointer (some ⟨w3.heap.size, 0, none⟩)]] 128)).ownsRow w2.heap.size 128 1 (.slice sa es.length sc) es.length (es.map (·.1))) := by
            show World.ownsRow _ _ _ _ _ _ _; rw [hW5]; exact owns_below HY.out.2.2.2.2.1 (ba _ _)
          have hlen : Hid (es.length ≤ 64) := by have := congrArg List.length HES.out; simp at this; show _ ≤ _; omega
          have hsA : Hid (w2.heap.size ≤ w4.heap.size) := by show _ ≤ _; exact Nat.le_trans hsz hb4.size
          clear hW5 tA
          simp only [holV] at tA2 HO ⊢
          go_wp2_with (at_builtin; refine wpList_append_own _ rfl _ _ 140 rfl w2.heap.size 128 i0 .nilFunc 1 8 Tryz.underlying140 hi0 hz0 hz1 hz2 rfl (by decide) _ _ _ rfl HO.out ⟨w4.heap.size + 1, 0, none⟩ 1 1 [.func (.func 107) #[] #[.pointer (some ⟨w4.heap.size, 0, none⟩), .pointer (some ⟨w3.heap.size, 0, none⟩)]] rfl ?q1 ?q2 ?q3 ?q4 ?q5 ?q6 ?_)
          case q1 => rfl
          case q2 =>
            intro j u hj
            match j, hj with
            | 0, hj => simp at hj; subst hj; simp [go_sem, Addr.add]
          case q3 => intro u hu; simp at hu; subst hu; rfl
          case q4 => have := hlen.out; simp [maxLen]; omega
          case q5 => have := hlen.out; omega
          case q6 => have := hsA.out; simp; omega
          intro v6 w6 hown6 hgrow hnil
          rw [show (w4.alloc (.cells #[.func (.func (117 + d.toNat)) #[] #[.pointer (some ⟨w3.heap.size + 1, 0, none⟩)]] 88)) = W5 from HW5.out] at hgrow
          obtain ⟨Z1, Z2, Z3, _, Z5⟩ := Boxed.appended HY.out.2.2.2.1 (by decide) HY.out.2.2.2.2.1 (Nat.le_trans hsz hb5.size) (Nat.le_refl _) hown6 hgrow
          obtain ⟨va, vc, rfl⟩ := owns_slice hown6
          have ZC : Hid (Tcs (w6.setCell ⟨w2.heap.size, 0, none⟩ (.slice va (es.length + 1) vc)) w2.heap.size (.slice va (es.length + 1) vc) (es ++ [(.func (.func 107) #[] #[.pointer (some ⟨w4.heap.size, 0, none⟩), .pointer (some ⟨w3.heap.size, 0, none⟩)], (p, d, z))])) := by
            have key : ∀ V e, Tcl W5 V e → Tcl (w6.setCell ⟨w2.heap.size, 0, none⟩ (.slice va (es.length + 1) vc)) V e := fun V e he =>
              ((he.at (ba _ _)).grow (owns_below HY.out.2.2.2.2.1 (ba _ _)) hgrow).setb Z1
            refine ⟨by simpa using Z3, fun e he => ?_⟩
            rcases List.mem_append.1 he with he | he
            · exact key _ _ (HY.out.2.2.2.2.2 e he)
            · obtain rfl := List.mem_singleton.1 he
              exact key _ _ ⟨_, _, _, rfl, HY.out.2.2.1, HY.out.1, HY.out.2.1⟩
          have ZE : Hid ((es ++ [((.func (.func 107) #[] #[.pointer (some ⟨w4.heap.size, 0, none⟩), .pointer (some ⟨w3.heap.size, 0, none⟩)] : Value), (p, d, z))]).map (·.2) = (wh.take (i + 1)).map (trp l)) := by
            show _ = _
            rw [List.map_append, HES.out, List.take_add_one, HG.out, List.map_append]
            simp [trp, HF.out]
          have hbz : Below w2.heap.size w2 (w6.setCell ⟨w2.heap.size, 0, none⟩ (.slice va (es.length + 1) vc)) := (bt hbl hb5).trans Z5
          have ZB : Hid (Boxed (w6.setCell ⟨w2.heap.size, 0, none⟩ (.slice va (es.length + 1) vc)) w2.heap.size 140 (.slice va (es.length + 1) vc)) := Z2
          have z1 := Z1.cell
          have z2 := Z1.frozen
          clear Z1 Z2 Z3 Z5 hgrow hown6 hnil tA2 HO
          go_wp2
          go_roundw
          case rel => exact ⟨i + 1, by go_num, h1, HI2, hbz, _, _, ZB.out, ZC.out, ZE.out⟩
          case measure => simp [intOf]; omega
    · obtain rfl : 0 = er := by have := HI.out; rw [List.drop_of_length_le (by omega)] at this; exact this
      have HES2 : Hid (es.map (·.2) = wh.map (trp l)) := by have := HES.out; rwa [List.take_of_length_le (by omega)] at this
      go_wp2
      go_ret
      exact ⟨hbl, .inl ⟨rfl, _, _, es, Nat.le_refl _, rfl, HBX.out, HT.out, HES2.out⟩⟩
end Go.Proofs.YtidfkencjdjkbaaGreatDoor.K
