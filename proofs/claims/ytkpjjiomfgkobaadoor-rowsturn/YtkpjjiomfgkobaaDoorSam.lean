import Derived.Test.YtkpjjiomfgkobaaDoorWro
import Derived.Laws.StructEq
namespace Go.Proofs.YtkpjjiomfgkobaaDoor
open Go.RowKit Go.Proofs.YtkpjjiomfgkobaaDoor.Ds
theorem col_struct : Tryd.prog.underlying 52 = some (.struct (Tryd.prog.fieldsOf 52)) := by rw [Program.fieldsOf, Tryd.underlying52]
theorem col_held : Tryd.prog.stoodInHeld 52 = false := by kernel_rfl
theorem col_guard : Tryd.prog.eqGuardType Tryd.prog.depth 52 = false := by kernel_rfl
theorem col_fields : ∃ f0 f1 : Field, (Tryd.prog.fieldsOf 52).toList = [f0, f1] ∧ f0.name ≠ "_" ∧ f1.name ≠ "_" ∧ f0.type = 9 ∧ f1.type = 3 ∧ f0.offset = 0 ∧ f1.offset = 1 := by
  refine ⟨_, _, by rw [Program.fieldsOf, Tryd.underlying52], by decide, by decide, rfl, rfl, rfl, rfl⟩
theorem col_neq (n1 n2 : ByteArray) (s1 s2 : Int) (r : Bool) (hr : (!decide ((n1, s1) = (n2, s2))) = r) (u : World) : (binOp .neq 52 (.agg #[.string n1, .int .i64 s1]) (.agg #[.string n2, .int .i64 s2])).run Tryd.prog u = .ok (.bool r) u := by
  obtain ⟨f0, f1, hf, n0, n1', t0, t1, o0, o1⟩ := col_fields
  rw [run_neq_struct, run_equalIn_struct u 9999 52 _ _ col_struct col_held, hf, ← hr]
  simp [Op.eqFields, n0, n1', t0, t1, o0, o1, go_sem, Tryd.underlying9, Tryd.underlying3, str_eq]
  by_cases h1 : n1 = n2 <;> by_cases h2 : s1 = s2 <;> simp [h1, h2]

theorem take_next {α : Type} {l m : List α} {i : Nat} {x : α} (h : l.take i = m.take i) (h1 : l[i]? = some x) (h2 : m[i]? = some x) : l.take (i + 1) = m.take (i + 1) := by
  rw [List.take_add_one, List.take_add_one, h, h1, h2]

set_option maxHeartbeats 1000000 in
theorem sameC_any (B : Nat) (u v : Value) (l m : List Col) (w : World) (hB : B ≤ w.heap.size) (hp : Cols w B u l) (hq : Cols w B v m) (r : Bool) (hr : decide (l = m) = r) :
    Calls Tryd.prog 32 #[u, v] w fun e w' => e = .returned (.bool r) ∧ Below w.heap.size w w' := by
  have HP : Hid (Cols w B u l) := hp
  have HQ : Hid (Cols w B v m) := hq
  have HR : Hid (decide (l = m) = r) := hr
  obtain ⟨a, c, rfl, hc, hl⟩ := hp.slice
  obtain ⟨a2, c2, rfl, hc2, hl2⟩ := hq.slice
  clear hr
  go_enter Tryd.func32, Tryd.ntmps32
  by_cases hlen : l.length = m.length
  · have hle2 : (((l.length : Int)) != (m.length : Int)) = false := by simp [hlen]
    have HLN : Hid (l.length = m.length) := hlen
    clear hlen
    go_wp2
    go_loopw [13] (fun s wr => ∃ i : Nat, s = .int .i64 (i : Int) ∧ i ≤ l.length ∧ Hid (l.take i = m.take i) ∧ Below w.heap.size w wr) (fun s _ => l.length - (intOf s).toNat)
    case atStart => exact ⟨0, rfl, Nat.zero_le _, by simp [Hid], Below.refl _ _⟩
    case round =>
      obtain ⟨i, rfl, hi, HT, hbl⟩ := hrel
      by_cases h1 : i < l.length
      · obtain ⟨b, o, nm, sz, rfl, hb, hg, c1, c2', hn⟩ := HP.out.get hB hbl h1
        obtain ⟨b2, o2, nm2, sz2, rfl, hb2, hg2, d1, d2, hn2⟩ := HQ.out.get hB hbl (i := i) (by have := HLN.out; omega)
        have HG : Hid (l[i]? = some (nm, sz)) := hg
        have HG2 : Hid (m[i]? = some (nm2, sz2)) := hg2
        have z1 : (i : Int) < (m.length : Int) := by have := HLN.out; omega
        have hgd := col_guard
        clear hg hg2
        by_cases he : (nm, sz) = (nm2, sz2)
        · have hbn := col_neq nm nm2 sz sz2 false (by rw [decide_eq_true he]; rfl)
          have HX : Hid ((nm, sz) = (nm2, sz2)) := he
          clear he
          go_wp2
          go_quiet (fail)
          go_wp2
          go_roundw
          case rel => exact ⟨i + 1, by go_num, h1, take_next HT.out HG.out (by rw [HG2.out, HX.out]), below_drewN hbl _⟩
          case measure => simp [intOf]; omega
        · have hbn := col_neq nm nm2 sz sz2 true (by rw [decide_eq_false he]; rfl)
          obtain rfl : false = r := by
            rw [← HR.out]
            refine (decide_eq_false fun h => he ?_).symm
            have := HG.out
            rw [h, HG2.out] at this
            exact (Option.some.inj this).symm
          clear he
          go_wp2
          go_quiet (fail)
          go_wp2
          go_ret
          exact ⟨rfl, below_drewN hbl _⟩
      · obtain rfl : true = r := by
          rw [← HR.out]
          refine (decide_eq_true ?_).symm
          have := HT.out
          rwa [List.take_of_length_le (by omega), List.take_of_length_le (by have := HLN.out; omega)] at this
        go_wp2
        go_ret
        exact ⟨rfl, hbl⟩
  · have hle2 : (((l.length : Int)) != (m.length : Int)) = true := by simp; omega
    obtain rfl : false = r := by
      rw [← HR.out]
      exact (decide_eq_false fun h => hlen (by rw [h])).symm
    go_wp2
    go_ret
    exact ⟨rfl, Below.refl _ _⟩
set_option maxHeartbeats 1000000 in
theorem equal_any (B : Nat) (u v : Value) (l m : List Col) (w : World) (hB : B ≤ w.heap.size) (hp : Cols w B u l) (hq : Cols w B v m) (r : Bool) (hr : decide (l = m) = r) :
    Calls Tryd.prog 34 #[u, v] w fun e w' => e = .returned (.bool r) ∧ Below w.heap.size w w' := by
  have HP : Hid (Cols w B u l) := hp
  have HQ : Hid (Cols w B v m) := hq
  have HR : Hid (decide (l = m) = r) := hr
  obtain ⟨a, c, rfl, hc, hl⟩ := hp.slice
  obtain ⟨a2, c2, rfl, hc2, hl2⟩ := hq.slice
  clear hr
  go_enter Tryd.func34, Tryd.ntmps34
  by_cases hlen : l.length = m.length
  · have hle2 : (((l.length : Int)) != (m.length : Int)) = false := by simp [hlen]
    have HLN : Hid (l.length = m.length) := hlen
    clear hlen
    go_wp2
    go_loopw [13] (fun s wr => ∃ i : Nat, s = .int .i64 (i : Int) ∧ i ≤ l.length ∧ Hid (l.take i = m.take i) ∧ Below w.heap.size w wr) (fun s _ => l.length - (intOf s).toNat)
    case atStart => exact ⟨0, rfl, Nat.zero_le _, by simp [Hid], Below.refl _ _⟩
    case round =>
      obtain ⟨i, rfl, hi, HT, hbl⟩ := hrel
      by_cases h1 : i < l.length
      · obtain ⟨b, o, nm, sz, rfl, hb, hg, c1, c2', hn⟩ := HP.out.get hB hbl h1
        obtain ⟨b2, o2, nm2, sz2, rfl, hb2, hg2, d1, d2, hn2⟩ := HQ.out.get hB hbl (i := i) (by have := HLN.out; omega)
        have HG : Hid (l[i]? = some (nm, sz)) := hg
        have HG2 : Hid (m[i]? = some (nm2, sz2)) := hg2
        have z1 : (i : Int) < (m.length : Int) := by have := HLN.out; omega
        have hgd := col_guard
        clear hg hg2
        by_cases he : (nm, sz) = (nm2, sz2)
        · have hbn := col_neq nm nm2 sz sz2 false (by rw [decide_eq_true he]; rfl)
          have HX : Hid ((nm, sz) = (nm2, sz2)) := he
          clear he
          go_wp2
          go_quiet (fail)
          go_wp2
          go_roundw
          case rel => exact ⟨i + 1, by go_num, h1, take_next HT.out HG.out (by rw [HG2.out, HX.out]), below_drewN hbl _⟩
          case measure => simp [intOf]; omega
        · have hbn := col_neq nm nm2 sz sz2 true (by rw [decide_eq_false he]; rfl)
          obtain rfl : false = r := by
            rw [← HR.out]
            refine (decide_eq_false fun h => he ?_).symm
            have := HG.out
            rw [h, HG2.out] at this
            exact (Option.some.inj this).symm
          clear he
          go_wp2
          go_quiet (fail)
          go_wp2
          go_ret
          exact ⟨rfl, below_drewN hbl _⟩
      · obtain rfl : true = r := by
          rw [← HR.out]
          refine (decide_eq_true ?_).symm
          have := HT.out
          rwa [List.take_of_length_le (by omega), List.take_of_length_le (by have := HLN.out; omega)] at this
        go_wp2
        go_ret
        exact ⟨rfl, hbl⟩
  · have hle2 : (((l.length : Int)) != (m.length : Int)) = true := by simp; omega
    obtain rfl : false = r := by
      rw [← HR.out]
      exact (decide_eq_false fun h => hlen (by rw [h])).symm
    go_wp2
    go_ret
    exact ⟨rfl, Below.refl _ _⟩

/-- with the rows in one order -/
def sameB (l m : List Col) (rs us : List (List Int)) : Bool := decide (l = m ∧ rs = us)
set_option maxHeartbeats 1000000 in
theorem sameT_any (B : Nat) (cu ru cv rv : Value) (l m : List Col) (ts us : List Rw) (w : World) (hB : B ≤ w.heap.size) (hp : Cols w B cu l) (hq : Rws w B ru ts) (hp2 : Cols w B cv m) (hq2 : Rws w B rv us) (r : Bool) (hr : sameB l m (rr ts) (rr us) = r) :
    Calls Tryd.prog 9 #[.agg #[cu, ru], .agg #[cv, rv]] w fun e w' => e = .returned (.bool r) ∧ Below w.heap.size w w' := by
  have HP : Hid (Cols w B cu l) := hp
  have HQ : Hid (Rws w B ru ts) := hq
  have HP2 : Hid (Cols w B cv m) := hp2
  have HQ2 : Hid (Rws w B rv us) := hq2
  have HR : Hid (sameB l m (rr ts) (rr us) = r) := hr
  obtain ⟨a, c, rfl, hc, hl⟩ := hp.slice
  obtain ⟨a2, c2, rfl, hc2, hl2⟩ := hq.slice
  obtain ⟨a3, c3, rfl, hc3, hl3⟩ := hp2.slice
  obtain ⟨a4, c4, rfl, hc4, hl4⟩ := hq2.slice
  clear hr
  obtain ⟨W, hW⟩ : ∃ W, (w.alloc (.cells #[.slice a l.length c, .slice a2 ts.length c2] 25)).alloc (.cells #[.slice a3 m.length c3, .slice a4 us.length c4] 25) = W := ⟨_, rfl⟩
  have hbW : Below w.heap.size w W := by rw [← hW]; exact bal (ba _ _) _
  have hsW : W.heap.size = w.heap.size + 2 := by rw [← hW]; simp
  have p0 : W.cell? ⟨w.heap.size, 0, none⟩ = some (.slice a l.length c) := by rw [← hW]; simp [go_sem]
  have p1 : W.cell? ⟨w.heap.size, 1, none⟩ = some (.slice a2 ts.length c2) := by rw [← hW]; simp [go_sem]
  have p2 : W.cell? ⟨w.heap.size + 1, 0, none⟩ = some (.slice a3 m.length c3) := by rw [← hW]; simp [go_sem]
  have p3 : W.cell? ⟨w.heap.size + 1, 1, none⟩ = some (.slice a4 us.length c4) := by rw [← hW]; simp [go_sem]
  obtain ⟨rc, hrc⟩ : ∃ rc, Hid (decide (l = m) = rc) := ⟨_, rfl⟩
  have kc := sameC_any B _ _ l m W (by omega) (HP.out.at hB hbW) (HP2.out.at hB hbW) rc hrc.out
  go_enter Tryd.func9, Tryd.ntmps9
  go_wp2_with fail

  clear hW
  refine kc.mono ?_
  rintro e w1 ⟨rfl, hb1⟩
  have hbw : Below w.heap.size w w1 := bt hbW hb1
  have q0 : w1.cell? ⟨w.heap.size, 1, none⟩ = some (.slice a2 ts.length c2) := (hb1.cell (p := ⟨w.heap.size, 1, none⟩) (by simp; omega)).trans p1
  have q1 : w1.cell? ⟨w.heap.size + 1, 1, none⟩ = some (.slice a4 us.length c4) := (hb1.cell (p := ⟨w.heap.size + 1, 1, none⟩) (by simp; omega)).trans p3
  have hz1 : w.heap.size + 1 < w1.heap.size := by have := hb1.size; omega
  clear kc p0 p1 p2 p3 hb1 hsW
  cases rc with
  | false =>
    obtain rfl : false = r := by
      rw [← HR.out]; exact (decide_eq_false fun h => (of_decide_eq_false hrc.out) h.1).symm
    go_wp2
    go_ret
    exact ⟨rfl, hbw⟩
  | true =>
    have hlm : l = m := of_decide_eq_true hrc.out
    have HLM : Hid (l = m) := hlm
    clear hlm
    by_cases hlen : ts.length = us.length
    · have hle : (((ts.length : Int)) != (us.length : Int)) = false := by simp [hlen]
      have HLN : Hid (ts.length = us.length) := hlen
      clear hlen
      go_wp2
      go_loopw [24] (fun s wr => ∃ i : Nat, s = .int .i64 (i : Int) ∧ i ≤ ts.length ∧ Hid ((rr ts).take i = (rr us).take i) ∧ Below w1.heap.size w1 wr) (fun s _ => ts.length - (intOf s).toNat)
      case atStart => exact ⟨0, rfl, Nat.zero_le _, by simp [Hid], Below.refl _ _⟩
      case round =>
        obtain ⟨i, rfl, hi, HT, hbl⟩ := hrel
        have hbr : Below w.heap.size w wr := bt hbw hbl
        have q2 : wr.cell? ⟨w.heap.size, 1, none⟩ = some (.slice a2 ts.length c2) := (hbl.cell (p := ⟨w.heap.size, 1, none⟩) (by simp; omega)).trans q0
        have q3 : wr.cell? ⟨w.heap.size + 1, 1, none⟩ = some (.slice a4 us.length c4) := (hbl.cell (p := ⟨w.heap.size + 1, 1, none⟩) hz1).trans q1
        by_cases h1 : i < ts.length
        · obtain ⟨b, o, sa, sc, xs, rfl, hb, hs, e1, hI⟩ := HQ.out.get hB hbr h1
          obtain ⟨b2, o2, sa2, sc2, xs2, rfl, hb2, hs2, e2, hI2⟩ := HQ2.out.get hB hbr (i := i) (by have := HLN.out; omega)
          have HS : Hid ((rr ts)[i]? = some xs) := rr_get hs
          have HS2 : Hid ((rr us)[i]? = some xs2) := rr_get hs2
          have HI : Hid (Ints wr B B (.slice sa xs.length sc) xs) := hI
          have HI2 : Hid (Ints wr B B (.slice sa2 xs2.length sc2) xs2) := hI2
          have z1 : (i : Int) < (us.length : Int) := by have := HLN.out; omega
          obtain ⟨r1, HC⟩ : ∃ r1, Hid (cmpT xs xs2 = r1) := ⟨_, rfl⟩
          clear hs hs2 hI hI2
          by_cases he : r1 = 0
          · have hx : Hid (xs2 = xs) := ((cmpT_zero _ _).1 (HC.out.trans he)).symm
            subst he
            go_wp2_with fail
            go_quiet ((go_at_call 33; refine Calls.quiet_of (refCompare_any B B B _ _ xs xs2 _ ?_ ?_ 0 HC.out); exact HI.out.keep (below_drewN (Below.refl _ _) _); exact HI2.out.keep (below_drewN (Below.refl _ _) _)))
            go_wp2
            go_roundw
            case rel => exact ⟨i + 1, by go_num, h1, take_next HT.out HS.out (by rw [HS2.out, hx.out]), below_drewN hbl _⟩
            case measure => simp [intOf]; omega
          · have he' : (r1 != 0) = true := by simpa using he
            obtain rfl : false = r := by
              rw [← HR.out]
              refine (decide_eq_false fun h => he ?_).symm
              have h2 := HS.out
              rw [h.2, HS2.out] at h2
              rw [← HC.out, Option.some.inj h2]; exact cmpT_self _
            go_wp2_with fail
            go_quiet ((go_at_call 33; refine Calls.quiet_of (refCompare_any B B B _ _ xs xs2 _ ?_ ?_ r1 HC.out); exact HI.out.keep (below_drewN (Below.refl _ _) _); exact HI2.out.keep (below_drewN (Below.refl _ _) _)))
            go_wp2
            go_ret
            exact ⟨rfl, below_drewN hbr _⟩
        · obtain rfl : true = r := by
            rw [← HR.out]
            refine (decide_eq_true ⟨HLM.out, ?_⟩).symm
            have := HT.out
            rwa [List.take_of_length_le (by rw [rr_len]; omega), List.take_of_length_le (by rw [rr_len]; have := HLN.out; omega)] at this
          go_wp2
          go_ret
          exact ⟨rfl, hbr⟩
    · have hle : (((ts.length : Int)) != (us.length : Int)) = true := by simp; omega
      obtain rfl : false = r := by
        rw [← HR.out]
        refine (decide_eq_false fun h => hlen ?_).symm
        rw [← rr_len, h.2, rr_len]
      go_wp2
      go_ret
      exact ⟨rfl, hbw⟩
end Go.Proofs.YtkpjjiomfgkobaaDoor
