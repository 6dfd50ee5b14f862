import Derived.Test.YtidfkencjdjkbaaGreatDoorQo17
/-
  PACKAGE speech: cut.
-/
namespace Go.Proofs.YtidfkencjdjkbaaGreatDoor
open Go.RowKit Sp

def pc2 (l : List Pc) : List Value := l.flatMap fun p => [.string (tx p.1), .int .i64 (p.2 : Int)]
theorem pc2_snoc (l : List Pc) (p : Pc) : pc2 (l ++ [p]) = pc2 l ++ [.string (tx p.1), .int .i64 (p.2 : Int)] := by simp [pc2]
theorem pc2_at : ∀ (l : List Pc) (i : Nat) (p : Pc) (j : Nat) (u : Value), l[i]? = some p → ([.string (tx p.1), .int .i64 (p.2 : Int)] : List Value)[j]? = some u → (pc2 l)[i * 2 + j]? = some u
  | [], i, t, j, u, h, _ => by simp at h
  | s :: l, 0, t, j, u, h, hj => by
    simp only [List.getElem?_cons_zero, Option.some.injEq] at h
    subst h
    have hlt := (List.getElem?_eq_some_iff.1 hj).1
    simp at hlt
    simp only [pc2, List.flatMap_cons, Nat.zero_mul, Nat.zero_add]
    rw [List.getElem?_append_left (by simp; omega)]
    exact hj
  | s :: l, i + 1, t, j, u, h, hj => by
    simp only [List.getElem?_cons_succ] at h
    have ih := pc2_at l i t j u h hj
    simp only [pc2, List.flatMap_cons] at ih ⊢
    rw [List.getElem?_append_right (by simp; omega)]
    simp only [List.length_cons, List.length_nil]
    rw [show (i + 1) * 2 + j - (0 + 1 + 1) = i * 2 + j by omega]
    exact ih
theorem infop71 : (Tryz.prog.info? 94).map (fun i => (i.zero, i.size, i.bytes)) = some (some (.agg #[.string ⟨#[]⟩, .int .i64 0]), 2, 24) := by kernel_rfl
/-- what cut answers -/
def CutP (t : By) (w : World) (e : Ending) (w' : World) : Prop :=
  (match cutT t 0 with | .ok ps => ∃ a c, e = .returned (.slice a ps.length c) ∧ w'.ownsRow w.heap.size 94 2 (.slice a ps.length c) ps.length (pc2 ps) | .error x => e = .panicked (chn 2 x)) ∧ Below w.heap.size w w'
theorem ahd_trans (ps qs : List Pc) (r : Except Nat (List Pc)) : Sp.ahead ps (Sp.ahead qs r) = Sp.ahead (ps ++ qs) r := by
  cases r with
  | error e => rfl
  | ok l => simp [Sp.ahead]
set_option maxHeartbeats 2000000 in
set_option maxRecDepth 100000 in
theorem cut_any (t : By) (ht : t.length ≤ 65536) (w : World) : Calls Tryz.prog 21 #[.string (tx t)] w (CutP t w) := by
  obtain ⟨i0, hi0, hz0, hz1, hz2⟩ := info_parts infop71
  obtain ⟨r, hr⟩ : ∃ r, cutT t 0 = r := ⟨_, rfl⟩
  have HRR : Hid (cutT t 0 = r) := hr
  have hsz : (tx t).size = t.length := by show t.toArray.size = _; simp
  clear hr
  go_enter Tryz.func21, Tryz.ntmps21
  go_wp2
  go_loopw [3, 4] (fun ov av wr => ∃ (at' : Nat) (ps : List Pc) (oa : Option Addr) (oc : Nat), av = .int .i64 (at' : Int) ∧ ov = .slice oa ps.length oc ∧ at' ≤ t.length ∧ ps.length ≤ at' ∧ Hid (Sp.ahead ps (cutT (t.drop at') at') = r) ∧ Hid (wr.ownsRow w.heap.size 94 2 (.slice oa ps.length oc) ps.length (pc2 ps)) ∧ Below w.heap.size w wr) (fun _ av _ => t.length - (intOf av).toNat)
  case atStart => exact ⟨0, [], none, 0, rfl, rfl, Nat.zero_le _, Nat.zero_le _, by
    have h := HRR.out
    rw [List.drop_zero, Hid, h]
    cases r <;> rfl, ⟨rfl, .inl ⟨rfl, rfl⟩⟩, Below.refl _ _⟩
  case round =>
    obtain ⟨k, ps, oa, oc, rfl, rfl, hk, hpk, HP, HO, hbl⟩ := hrel
    by_cases c1 : k < t.length
    · obtain ⟨c, s, hcs⟩ : ∃ c s, t.drop k = c :: s := by
        cases hd : t.drop k with
        | nil => have := List.drop_eq_nil_iff.1 hd; omega
        | cons c s => exact ⟨c, s, rfl⟩
      have e0 : ∀ h, (tx t)[k]'h = c := fun h => by
        have h2 : t[k]? = some c := by
          have := congrArg List.head? hcs
          simpa using this
        have h3 : (tx t)[k]'h = t[k]'c1 := rfl
        rw [h3]
        exact Option.some.inj ((List.getElem?_eq_getElem c1).symm.trans h2)
      have hslen : s.length ≤ 65536 := by
        have := congrArg List.length hcs
        simp at this
        omega
      have hkz : (k : Int) < ((tx t).size : Int) := by rw [hsz]; omega
      have hkz2 : k < (tx t).size := by omega
      by_cases c2 : c = 32 ∨ c = 10
      · have HP2 : Hid (Sp.ahead ps (cutT (t.drop (k + 1)) (k + 1)) = r) := by
          have h := HP.out
          rw [hcs, cutT_sp c c2] at h
          have e : t.drop (k + 1) = s := by rw [← List.drop_drop, hcs]; rfl
          rw [Hid, e]
          exact h
        clear HP hcs
        rcases c2 with rfl | rfl
        · go_wp2
          go_roundw
          case rel => exact ⟨k + 1, ps, oa, oc, by go_num, rfl, c1, by omega, HP2, HO, hbl⟩
          case measure => simp [intOf]; omega
        · go_wp2
          go_roundw
          case rel => exact ⟨k + 1, ps, oa, oc, by go_num, rfl, c1, by omega, HP2, HO, hbl⟩
          case measure => simp [intOf]; omega
      · have q1 : ¬ c = 32 := fun e => c2 (.inl e)
        have q2 : ¬ c = 10 := fun e => c2 (.inr e)
        have q3 : ¬ (c.toNat : Int) = 32 := fun e => q1 (UInt8.toNat_inj.1 (by show c.toNat = 32; omega))
        have q4 : ¬ (c.toNat : Int) = 10 := fun e => q2 (UInt8.toNat_inj.1 (by show c.toNat = 10; omega))
        have q5 : ((c.toNat : Int) == 32) = false := by simpa using q3
        have q6 : ((c.toNat : Int) == 10) = false := by simpa using q4
        have kl := long_any c s hslen wr
        have hlc := lon_le c s
        have hcl : (c :: s).length = t.length - k := by rw [← hcs]; simp
        obtain ⟨L, hL⟩ : ∃ L, lonN (c :: s) = L := ⟨_, rfl⟩
        rw [hL] at kl hlc
        have hx1 : (tx t).extract k (tx t).size = tx (c :: s) := by
          rw [tx_ext, hcs, hsz, List.take_of_length_le (by rw [hcl]; exact Nat.le_refl _)]
        have hx2 : (tx t).extract k t.length = tx (c :: s) := by rw [← hsz]; exact hx1
        have HL : Hid (lonN (c :: s) = L) := hL
        clear hL
        have hP := HP.out
        rw [hcs, cut_step c s c2, HL.out] at hP
        by_cases c3 : L = 0
        · subst c3
          rw [if_pos rfl] at hP
          obtain rfl : .error k = r := hP
          have km := must_no 2 (k : Int) wr
          clear HP
          go_wp2_with fail
          refine kl.mono ?_
          rintro e w2 ⟨rfl, rfl⟩
          go_wp2_with fail
          refine km.mono ?_
          rintro e w3 ⟨rfl, rfl⟩
          go_wp2
          exact ⟨rfl, by rw [HRR.out], hbl⟩
        · rw [if_neg c3, ahd_trans, ← hcs, List.drop_drop] at hP
          have HP2 : Hid (Sp.ahead (ps ++ [((c :: s).take L, k)]) (cutT (t.drop (k + L)) (k + L)) = r) := by rw [← hcs]; exact hP
          have km := must_ok 2 (k : Int) wr
          have c4 : 0 < L := by omega
          have c5 : (0 : Int) < (L : Int) := by omega
          have c6 : decide (0 < L) = true := by simpa using c4
          have hkl : k + L ≤ t.length := by omega
          have hx3 : (tx t).extract k (k + L) = tx ((c :: s).take L) := by rw [tx_ext, hcs, Nat.add_sub_cancel_left]
          have HOA : Hid ((wr.alloc (.cells #[.string (tx ((c :: s).take L)), .int .i64 (k : Int)] 94)).ownsRow w.heap.size 94 2 (.slice oa ps.length oc) ps.length (pc2 ps)) := row_gb HO.out (gb_none (ba _ _)) (fun g hg e => by cases e)
          have hbs := hbl.size
          have d1 : ((k : Int) + (L : Int)) ≤ ((tx t).size : Int) := by rw [hsz]; omega
          have d2 : (k : Int) ≤ (k : Int) + (L : Int) := by omega
          have d3 : IntKind.i64.wrap ((k : Int) + (L : Int)) = ((k + L : Nat) : Int) := by rw [IntKind.wrap_i64]; omega
          have d4 : ((k + L : Nat) : Int) ≤ ((tx t).size : Int) := by rw [hsz]; omega
          have d5 : (k : Int) ≤ ((k + L : Nat) : Int) := by omega
          clear hP HP hcs HL hcl
          generalize (c :: s).take L = T at *
          go_wp2_with fail
          refine kl.mono ?_
          rintro e w2 ⟨rfl, rfl⟩
          clear kl
          go_wp2_with fail
          refine km.mono ?_
          rintro e w3 ⟨rfl, rfl⟩
          clear km
          go_wp2_with (at_builtin; refine wpList_append_own_at _ rfl _ _ 56 rfl w.heap.size 94 i0 (.agg #[.string ⟨#[]⟩, .int .i64 0]) 2 24 Tryz.underlying56 hi0 hz0 hz1 hz2 rfl (by decide) (.slice oa ps.length oc) ps.length (pc2 ps) rfl HOA.out ⟨w3.heap.size, 0, none⟩ 1 1 [.string (tx T), .int .i64 (k : Int)] rfl rfl (two_cells w3 _ _ _ _ rfl) (by intro z hz; simp at hz; rcases hz with rfl | rfl <;> rfl) (by unfold maxLen; omega) (by omega) (by simp; omega) ?_)
          intro nv w8 hown hgrow hnil hat
          obtain ⟨ma, mc, rfl⟩ := row_slice hown
          have HO8 : Hid (w8.ownsRow w.heap.size 94 2 (.slice ma (ps ++ [(T, k)]).length mc) (ps ++ [(T, k)]).length (pc2 (ps ++ [(T, k)]))) := by
            rw [Hid, pc2_snoc, List.length_append]
            exact hown
          have hb8 : Below w.heap.size w w8 := (hbl.alloc hbl.size _).grown hgrow (by simp; omega) (fun k e => (row_lt HOA.out e).1)
          have hle : (ps ++ [(T, k)]).length = ps.length + 1 := by simp
          clear hown hgrow hnil hat HOA
          go_wp2
          go_roundw
          case rel => exact ⟨k + L, ps ++ [(T, k)], ma, mc, by go_num, by rw [hle], hkl, by rw [hle]; omega, HP2, HO8, hb8⟩
          case measure => simp [intOf]; omega
    · obtain rfl : k = t.length := by omega
      have hP := HP.out
      rw [List.drop_length, cutT_nil] at hP
      obtain rfl : .ok (ps ++ [([], t.length)]) = r := hP
      have HOA : Hid ((wr.alloc (.cells #[.string (tx []), .int .i64 (t.length : Int)] 94)).ownsRow w.heap.size 94 2 (.slice oa ps.length oc) ps.length (pc2 ps)) := row_gb HO.out (gb_none (ba _ _)) (fun g hg e => by cases e)
      have hbs := hbl.size
      clear HP HO
      go_wp2_with (at_builtin; refine wpList_append_own_at _ rfl _ _ 56 rfl w.heap.size 94 i0 (.agg #[.string ⟨#[]⟩, .int .i64 0]) 2 24 Tryz.underlying56 hi0 hz0 hz1 hz2 rfl (by decide) (.slice oa ps.length oc) ps.length (pc2 ps) rfl HOA.out ⟨wr.heap.size, 0, none⟩ 1 1 [.string (tx ([] : By)), .int .i64 (t.length : Int)] rfl rfl (two_cells wr _ _ _ _ rfl) (by intro z hz; simp at hz; rcases hz with rfl | rfl <;> rfl) (by unfold maxLen; omega) (by omega) (by simp; omega) ?_)
      intro nv w8 hown hgrow hnil hat
      obtain ⟨ma, mc, rfl⟩ := row_slice hown
      have HO8 : Hid (w8.ownsRow w.heap.size 94 2 (.slice ma (ps ++ [(([] : By), t.length)]).length mc) (ps ++ [(([] : By), t.length)]).length (pc2 (ps ++ [(([] : By), t.length)]))) := by
        rw [Hid, pc2_snoc, List.length_append]
        exact hown
      have hb8 : Below w.heap.size w w8 := (hbl.alloc hbl.size _).grown hgrow (by simp; omega) (fun k e => (row_lt HOA.out e).1)
      have hle : (ps ++ [(([] : By), t.length)]).length = ps.length + 1 := by simp
      clear hown hgrow hnil hat HOA
      go_wp2
      go_ret
      exact ⟨by rw [HRR.out]; exact ⟨ma, mc, by rw [hle]; rfl, HO8.out⟩, hb8⟩
end Go.Proofs.YtidfkencjdjkbaaGreatDoor

/-
  PACKAGE speech: what Read calls.
-/
namespace Go.Proofs.YtidfkencjdjkbaaGreatDoor
open Go.RowKit Sp

/-- pieces of one's own make a reader -/
theorem rdr_new {w : World} {base R b : Nat} {a : Option Addr} {c : Nat} {ps : List Pc} (ho : w.ownsRow base 94 2 (.slice a ps.length c) ps.length (pc2 ps)) (hf : Fin ps) (hd : ∀ p ∈ ps, (fstD p.1 = true → p.1.all digB = true) ∧ p.1.length ≤ 65536 ∧ p.2 ≤ 65536) (hb : Bx w R [.slice a ps.length c, .map (some b)]) (hR : ∀ g, a = some ⟨g, 0, none⟩ → g ≠ R) : ∃ P0, Rdr w R P0 ps (.map (some b)) := by
  have hne := hf.ne
  obtain ⟨p0, r0, rfl⟩ := List.exists_cons_of_ne_nil hne
  obtain ⟨g, hg, hg1, hg2, _⟩ := row_cell ho (pc2_at _ 0 p0 0 _ rfl rfl)
  subst hg
  have hcap : (p0 :: r0).length ≤ c ∧ c ≤ 9223372036854775807 := by
    rcases ho.2 with ⟨h1, _⟩ | ⟨g', cap, cur, hv, _, _, h1, h2, _⟩
    · cases h1
    · simp only [Value.slice.injEq] at hv
      obtain ⟨_, _, rfl⟩ := hv
      unfold maxLen at h2
      exact ⟨h1, h2⟩
  refine ⟨g, ⟨⟨_, hb 0 _ rfl, 0, c, rfl, hcap.1, hcap.2, hg2, hR g rfl, fun i p hp => ?_⟩, hb 1 _ rfl, hf, fun p hp => (hd p hp).1⟩⟩
  obtain ⟨g1, e1, _, _, c1⟩ := row_cell ho (pc2_at _ i p 0 _ hp rfl)
  obtain ⟨g2, e2, _, _, c2⟩ := row_cell ho (pc2_at _ i p 1 _ hp rfl)
  simp only [Option.some.injEq, Addr.mk.injEq] at e1 e2
  obtain ⟨rfl, -⟩ := e1
  obtain ⟨rfl, -⟩ := e2
  have hm := hd p (List.mem_of_getElem? hp)
  exact ⟨by rw [show 0 + i * 2 = i * 2 + 0 by omega]; exact c1, by rw [show 0 + i * 2 + 1 = i * 2 + 1 by omega]; exact c2, hm.2⟩
/-- what Read's function answers -/
def ReP (t : By) (w : World) (e : Ending) (w' : World) : Prop :=
  (match readT t with | .ok a => ∃ v, e = .returned v ∧ VQ w.heap.size w' a v | .error (c, x) => e = .panicked (chn c x)) ∧ Below w.heap.size w w'
theorem below_of {w a b : World} {R : Nat} (h : Below w.heap.size w a) (hg : a.grownBy b (some R)) (hR : w.heap.size ≤ R) : Below w.heap.size w b := h.trans (below_gb hg hR h.size)
set_option maxHeartbeats 2000000 in
set_option maxRecDepth 100000 in
theorem read1_any (t : By) (htl : t.length ≤ 9223372036854775807) (w : World) (S : Nat) (hS : w.cell? ⟨S, 0, none⟩ = some (.string (tx t))) (hSl : S < w.heap.size) (hG : Glo w) : Calls Tryz.prog 20 #[.pointer (some ⟨S, 0, none⟩)] w (ReP t w) := by
  obtain ⟨W0, hW0⟩ : ∃ W0, w.alloc (.cells #[.int .i64 0, .string ⟨#[]⟩, .int .i64 0, .int .i64 0, .slice none 0 0, .slice none 0 0] 25) = W0 := ⟨_, rfl⟩
  have hb0 : Below w.heap.size w W0 := hW0 ▸ ba _ _
  have HB0 : Hid (Bx W0 w.heap.size z6) := hW0 ▸ Bx.new w z6 25 rfl
  have hz0 : w.heap.size < W0.heap.size := (HB0.out 0 _ rfl).lt
  have s0 : W0.cell? ⟨S, 0, none⟩ = some (.string (tx t)) := (hb0.cell (p := ⟨S, 0, none⟩) hSl).trans hS
  have HBL0 : Hid (Below w.heap.size w W0) := hb0
  have HGL : Hid (Glo w) := hG
  obtain ⟨r, hr⟩ : ∃ r, readT t = r := ⟨_, rfl⟩
  have HRR : Hid (readT t = r) := hr
  have hsz : (tx t).size = t.length := by show t.toArray.size = _; simp
  unfold readT at hr
  clear hS hG hb0
  by_cases c1 : 65536 < t.length
  · rw [if_pos c1] at hr
    subst hr
    have km := must_no 4 0 W0
    have d1 : ¬ (t.length : Int) ≤ 65536 := by omega
    have d2 : decide (t.length ≤ 65536) = false := by simp; omega
    go_enter Tryz.func20, Tryz.ntmps20
    go_wp2_with fail
    clear hW0
    refine km.mono ?_
    rintro e w1 ⟨rfl, rfl⟩
    go_wp2
    exact ⟨rfl, by rw [HRR.out]; rfl, HBL0.out⟩
  · rw [if_neg c1] at hr
    have km := must_ok 4 0 W0
    have d1 : (t.length : Int) ≤ 65536 := by omega
    have d2 : t.length ≤ 65536 := by omega
    have d3 : decide (t.length ≤ 65536) = true := by simpa using d2
    have kc := cut_any t d2 W0
    obtain ⟨rc, hrc⟩ : ∃ rc, cutT t 0 = rc := ⟨_, rfl⟩
    rw [hrc] at hr
    have HRC : Hid (cutT t 0 = rc) := hrc
    have HR1 : Hid _ := hr
    clear hr hrc c1
    go_enter Tryz.func20, Tryz.ntmps20
    go_wp2_with fail
    clear hW0
    refine km.mono ?_
    rintro e w1 ⟨rfl, rfl⟩
    clear km
    go_wp2_with fail
    refine kc.mono ?_
    rintro e w2 ⟨he, hb2⟩
    have HBL2 : Hid (Below w.heap.size w w2) := bt HBL0.out hb2
    have HB2 : Hid (Bx w2 w.heap.size z6) := HB0.out.at hb2
    have hz2 := hb2.size
    clear kc hb2 s0
    rw [HRC.out] at he
    cases rc with
    | error x =>
      obtain rfl : .error (2, x) = r := HR1.out
      obtain rfl : e = .panicked (chn 2 x) := he
      go_wp2
      exact ⟨rfl, by rw [HRR.out], HBL2.out⟩
    | ok ps =>
      obtain ⟨pa, pc, rfl, hown⟩ := he
      obtain ⟨hfin, hall, hplen⟩ := cut_good t.length t 0 ps (Nat.le_refl _) HRC.out
      have HO2 : Hid (w2.ownsRow w1.heap.size 94 2 (.slice pa ps.length pc) ps.length (pc2 ps)) := hown
      have HFI : Hid (Fin ps ∧ ∀ p ∈ ps, (fstD p.1 = true → p.1.all digB = true) ∧ p.1.length ≤ 65536 ∧ p.2 ≤ 65536) := ⟨hfin, fun p hp => ⟨(hall p hp).1, by have := (hall p hp).2.1; omega, by have := (hall p hp).2.2; omega⟩⟩
      clear hown hfin hall
      have kk := known_any w2
      go_wp2_with fail
      refine kk.mono ?_
      rintro e w3 ⟨b, rfl, hwd, hbl, hbl2, hb3⟩
      have HBL3 : Hid (Below w.heap.size w w3) := bt HBL2.out hb3
      have HB3 : Hid (Bx w3 w.heap.size z6) := HB2.out.at hb3
      have HO3 : Hid (w3.ownsRow w1.heap.size 94 2 (.slice pa ps.length pc) ps.length (pc2 ps)) := row_gb HO2.out (gb_none hb3) (fun g hg e => by cases e)
      have HWD3 : Hid (Wds w3 b) := hwd
      have hz3 := hb3.size
      clear kk hb3 hwd HO2 HB2
      obtain ⟨W4, hW4⟩ : ∃ W4, w3.alloc (.cells #[.slice pa ps.length pc, .map (some b)] 61) = W4 := ⟨_, rfl⟩
      have hb4 : Below w3.heap.size w3 W4 := hW4 ▸ ba _ _
      have HBR : Hid (Bx W4 w3.heap.size [.slice pa ps.length pc, .map (some b)]) := hW4 ▸ Bx.new w3 [.slice pa ps.length pc, .map (some b)] 61 rfl
      have HBL4 : Hid (Below w.heap.size w W4) := bt HBL3.out hb4
      have HB4 : Hid (Bx W4 w.heap.size z6) := HB3.out.at hb4
      have HO4 : Hid (W4.ownsRow w1.heap.size 94 2 (.slice pa ps.length pc) ps.length (pc2 ps)) := row_gb HO3.out (gb_none hb4) (fun g hg e => by cases e)
      obtain ⟨R, hR⟩ : ∃ R, w3.heap.size = R := ⟨_, rfl⟩
      obtain ⟨P0, hrd⟩ := rdr_new (R := R) (b := b) HO4.out HFI.out.1 HFI.out.2 (hR ▸ HBR.out) (fun g hg e => by
        have h1 := (row_lt HO3.out (g := g) (by rw [hg]; rfl)).2
        omega)
      have HX4 : Hid (Cx W4 R b) := ⟨HGL.out.at HBL4.out, HWD3.out.at hb4, by omega, by have := HGL.out.sz; omega⟩
      have hR1 : w.heap.size ≠ R := by omega
      have hR2 : w.heap.size ≤ R := by omega
      have hR4 : R < W4.heap.size := by rw [← hR]; exact (HBR.out 0 _ rfl).lt
      obtain ⟨r5, hr5⟩ : ∃ r5, qusK 64 ps = r5 := ⟨_, rfl⟩
      have hq := HR1.out
      simp only [hr5] at hq
      have HR5 : Hid _ := hq
      have k5 := question_any W4 R b P0 ps r5 hrd HX4.out hr5
      clear hq hr5 hrd HR1 HO3 HO4 HB3 HBR hb4
      go_wp2_with fail
      clear hW4
      refine k5.mono ?_
      rintro e w5 ⟨he, hg5⟩
      have HBL5 : Hid (Below w.heap.size w w5) := below_of HBL4.out hg5 hR2
      have HB5 : Hid (Bx w5 w.heap.size z6) := HB4.out.gb hg5 hR1
      have hz5 := hg5.size
      clear k5 hg5 HB4
      cases r5 with
      | error x =>
        obtain ⟨c, x⟩ := x
        obtain rfl : .error (c, x) = r := HR5.out
        obtain rfl : e = .panicked (chn c x) := he
        go_wp2
        exact ⟨rfl, by rw [HRR.out], HBL5.out⟩
      | ok x =>
        obtain ⟨a1, q1⟩ := x
        obtain ⟨⟨v, rfl, cs, rfl, hqv⟩, h5⟩ := he
        obtain ⟨xk, xc, xl, xh, xa4, xn4, xc4, xa5, xn5, xc5, rfl⟩ := hqv.six
        obtain ⟨W6, hW6⟩ : ∃ W6, w5.alloc (.cells #[.int .i64 xk, .string (tx xc), .int .i64 xl, .int .i64 xh, .slice xa4 xn4 xc4, .slice xa5 xn5 xc5] 25) = W6 := ⟨_, rfl⟩
        have hb6 : Below w5.heap.size w5 W6 := hW6 ▸ ba _ _
        have HC6 : Hid (Bx W6 w5.heap.size [.int .i64 xk, .string (tx xc), .int .i64 xl, .int .i64 xh, .slice xa4 xn4 xc4, .slice xa5 xn5 xc5]) := hW6 ▸ Bx.new w5 [.int .i64 xk, .string (tx xc), .int .i64 xl, .int .i64 xh, .slice xa4 xn4 xc4, .slice xa5 xn5 xc5] 25 rfl
        have HBL6 : Hid (Below w.heap.size w W6) := bt HBL5.out hb6
        have HB6 : Hid (Bx W6 w.heap.size z6) := HB5.out.at hb6
        have H6 : Hid (Rdr W6 R P0 q1 (.map (some b))) := h5.at hb6
        have HQ6 : Hid (QV W4.heap.size W6 a1 [.int .i64 xk, .string (tx xc), .int .i64 xl, .int .i64 xh, .slice xa4 xn4 xc4, .slice xa5 xn5 xc5]) := QV.kp (Kp.bl hb6) a1 hqv
        clear hqv h5 hb6 HB5
        by_cases c2 : hd q1 = []
        · have ke := is_any H6.out [] true (by simpa using c2)
          have kq := pmust_ok H6.out 2
          have hq := HR5.out
          simp only [if_pos c2] at hq
          obtain rfl : .ok a1 = r := hq
          clear c2
          go_wp2_with fail
          clear hW6
          refine ke.mono ?_
          rintro e w7 ⟨rfl, rfl⟩
          go_wp2_with fail
          refine kq.mono ?_
          rintro e w7 ⟨rfl, rfl⟩
          clear ke kq
          have s0 := (HC6.out 0 _ rfl).c
          have s1 := (HC6.out 1 _ rfl).c
          have s2 := (HC6.out 2 _ rfl).c
          have s3 := (HC6.out 3 _ rfl).c
          have s4 := (HC6.out 4 _ rfl).c
          have s5 := (HC6.out 5 _ rfl).c
          have z0 := (HB6.out 0 _ rfl).c
          have z1 := (HB6.out 1 _ rfl).c
          have z2 := (HB6.out 2 _ rfl).c
          have z3 := (HB6.out 3 _ rfl).c
          have z4 := (HB6.out 4 _ rfl).c
          have z5 := (HB6.out 5 _ rfl).c
          have y0 := (HB6.out 0 _ rfl).f
          have y1 := (HB6.out 1 _ rfl).f
          have y2 := (HB6.out 2 _ rfl).f
          have y3 := (HB6.out 3 _ rfl).f
          have y4 := (HB6.out 4 _ rfl).f
          have y5 := (HB6.out 5 _ rfl).f
          obtain ⟨W7, hW7⟩ : ∃ W7, set6 w7 w.heap.size (.int .i64 xk) (.string (tx xc)) (.int .i64 xl) (.int .i64 xh) (.slice xa4 xn4 xc4) (.slice xa5 xn5 xc5) = W7 := ⟨_, rfl⟩
          have HB7 : Hid (Bx W7 w.heap.size [.int .i64 xk, .string (tx xc), .int .i64 xl, .int .i64 xh, .slice xa4 xn4 xc4, .slice xa5 xn5 xc5]) := hW7 ▸ set6_bx HB6.out _ _ _ _ _ _
          have HG7 : Hid (w.grownBy W7 none) := hW7 ▸ set6_gb (gb_none HBL6.out) (Nat.le_refl _) _ _ _ _ _ _
          have HQ7 : Hid (QV w.heap.size W7 a1 [.int .i64 xk, .string (tx xc), .int .i64 xl, .int .i64 xh, .slice xa4 xn4 xc4, .slice xa5 xn5 xc5]) := hW7 ▸ QV.mono (by omega) a1 (QV.kp (set6_kp (by omega) _ _ _ _ _ _) a1 HQ6.out)
          unfold set6 at hW7
          go_wp2
          have x0 := (HB7.out 0 _ rfl).c
          have x1 := (HB7.out 1 _ rfl).c
          have x2 := (HB7.out 2 _ rfl).c
          have x3 := (HB7.out 3 _ rfl).c
          have x4 := (HB7.out 4 _ rfl).c
          have x5 := (HB7.out 5 _ rfl).c
          exact bodyPost_ret (v := .agg #[.int .i64 xk, .string (tx xc), .int .i64 xl, .int .i64 xh, .slice xa4 xn4 xc4, .slice xa5 xn5 xc5]) (by simp [results, Tryz.results20, go_sem, x0, x1, x2, x3, x4, x5]) rfl ⟨by rw [HRR.out]; exact ⟨_, rfl, _, rfl, HQ7.out⟩, ⟨HG7.out.os, HG7.out.tape, HG7.out.output, HG7.out.size, fun k hk => HG7.out.block k hk (by simp)⟩⟩
        · have ke := is_any H6.out [] false (by simpa using c2)
          have kq := pmust_no H6.out 2
          have hq := HR5.out
          simp only [if_neg c2] at hq
          obtain rfl : .error (2, hat q1) = r := hq
          clear c2
          go_wp2_with fail
          clear hW6
          refine ke.mono ?_
          rintro e w7 ⟨rfl, rfl⟩
          go_wp2_with fail
          refine kq.mono ?_
          rintro e w7 ⟨rfl, rfl⟩
          go_wp2
          exact ⟨rfl, by rw [HRR.out], HBL6.out⟩
end Go.Proofs.YtidfkencjdjkbaaGreatDoor

/-
  PACKAGE speech: Read.
-/
namespace Go.Proofs.YtidfkencjdjkbaaGreatDoor
open Go.RowKit Sp

abbrev f0 : List Value := [.int .i64 0, .int .i64 0]
/-- what is caught, or answered -/
def CaP (t : By) (w : World) (e : Ending) (w' : World) : Prop :=
  (match readT t with | .ok a => ∃ cs, e = .returned (.tuple #[.agg cs.toArray, .agg #[.int .i64 0, .int .i64 0]]) ∧ QV w.heap.size w' a cs | .error (c, x) => e = .returned (.tuple #[.agg #[.int .i64 0, .string ⟨#[]⟩, .int .i64 0, .int .i64 0, .slice none 0 0, .slice none 0 0], .agg #[.int .i64 c, .int .i64 (x : Int)]])) ∧ Below w.heap.size w w'
set_option maxHeartbeats 2000000 in
set_option maxRecDepth 100000 in
theorem caughtA_any (t : By) (htl : t.length ≤ 9223372036854775807) (w : World) (S : Nat) (hS : w.cell? ⟨S, 0, none⟩ = some (.string (tx t))) (hSl : S < w.heap.size) (hG : Glo w) : Calls Tryz.prog 19 #[.func (.func 20) #[] #[.pointer (some ⟨S, 0, none⟩)]] w (CaP t w) := by
  have hmf := hmf
  obtain ⟨W0, hW0⟩ : ∃ W0, (w.alloc (.cells #[.int .i64 0, .string ⟨#[]⟩, .int .i64 0, .int .i64 0, .slice none 0 0, .slice none 0 0] 25)).alloc (.cells #[.int .i64 0, .int .i64 0] 36) = W0 := ⟨_, rfl⟩
  have hb0 : Below w.heap.size w W0 := hW0 ▸ bal (ba _ _) _
  have HB0 : Hid (Bx W0 w.heap.size z6) := hW0 ▸ (Bx.new w z6 25 rfl).at (ba _ _)
  have HF0 : Hid (Bx W0 (w.heap.size + 1) f0) := hW0 ▸ Bx.new (w.alloc (.cells #[.int .i64 0, .string ⟨#[]⟩, .int .i64 0, .int .i64 0, .slice none 0 0, .slice none 0 0] 25)) f0 36 (by simp)
  have hz0 : w.heap.size + 1 < W0.heap.size := (HF0.out 0 _ rfl).lt
  have HBL0 : Hid (Below w.heap.size w W0) := hb0
  have k1 := read1_any t htl W0 S ((hb0.cell (p := ⟨S, 0, none⟩) hSl).trans hS) (Nat.lt_of_lt_of_le hSl hb0.size) (hG.at hb0)
  obtain ⟨r, hr⟩ : ∃ r, readT t = r := ⟨_, rfl⟩
  have HRR : Hid (readT t = r) := hr
  clear hb0 hS hr
  go_enter_defers Tryz.func19, Tryz.ntmps19
  go_wp2_with fail
  clear hW0
  refine k1.mono ?_
  rintro e w1 ⟨he, hb1⟩
  rw [HRR.out] at he
  have HBL1 : Hid (Below w.heap.size w w1) := bt HBL0.out hb1
  have HB1 : Hid (Bx w1 w.heap.size z6) := HB0.out.at hb1
  have HF1 : Hid (Bx w1 (w.heap.size + 1) f0) := HF0.out.at hb1
  clear k1 hb1 HB0 HF0
  cases r with
  | error x =>
    obtain ⟨c, x⟩ := x
    obtain rfl : e = .panicked (chn c x) := he
    go_wp2
    refine leaves_cons (f := 45) (args := #[.pointer (some ⟨w.heap.size + 1, 0, none⟩)]) (by simp) (by simp [go_sem]) ?_
    refine (catchA_no _ _ _ _ _ _ HF1.out).mono ?_
    rintro e u' w'' ⟨rfl, rfl, rfl⟩
    obtain ⟨W7, hW7⟩ : ∃ W7, ((w1.alloc (.cells #[.int .i64 c, .int .i64 (x : Int)] 75)).setCell ⟨w.heap.size + 1, 0, none⟩ (.int .i64 c)).setCell ⟨w.heap.size + 1, 1, none⟩ (.int .i64 (x : Int)) = W7 := ⟨_, rfl⟩
    have HBz : Hid (Below w.heap.size w W7) := hW7 ▸ bs (bs (bal HBL1.out _) (p := ⟨w.heap.size + 1, 0, none⟩) (Nat.le_succ _) _) (p := ⟨w.heap.size + 1, 1, none⟩) (Nat.le_succ _) _
    have HF7 : Hid (Bx W7 (w.heap.size + 1) [.int .i64 c, .int .i64 (x : Int)]) := hW7 ▸ ((HF1.out.at (ba _ _)).set (i := 0) (by simp) _).set (i := 1) (by simp) _
    have HB7 : Hid (Bx W7 w.heap.size z6) := hW7 ▸ ((HB1.out.at (ba _ _)).oth (by omega) _).oth (by omega) _
    rw [hW7]
    clear hW7
    have x0 := (HB7.out 0 _ rfl).c
    have x1 := (HB7.out 1 _ rfl).c
    have x2 := (HB7.out 2 _ rfl).c
    have x3 := (HB7.out 3 _ rfl).c
    have x4 := (HB7.out 4 _ rfl).c
    have x5 := (HB7.out 5 _ rfl).c
    have f0 := (HF7.out 0 _ rfl).c
    have f1 := (HF7.out 1 _ rfl).c
    simp [Leaves, settle, results, Tryz.results19, go_sem, x0, x1, x2, x3, x4, x5, f0, f1]
    exact ⟨by rw [HRR.out], HBz.out⟩
  | ok a1 =>
    obtain ⟨v, rfl, cs, rfl, hqv⟩ := he
    obtain ⟨xk, xc, xl, xh, xa4, xn4, xc4, xa5, xn5, xc5, rfl⟩ := hqv.six
    have HQ1 : Hid (QV W0.heap.size w1 a1 [.int .i64 xk, .string (tx xc), .int .i64 xl, .int .i64 xh, .slice xa4 xn4 xc4, .slice xa5 xn5 xc5]) := hqv
    clear hqv
    have z0 := (HB1.out 0 _ rfl).c
    have z1 := (HB1.out 1 _ rfl).c
    have z2 := (HB1.out 2 _ rfl).c
    have z3 := (HB1.out 3 _ rfl).c
    have z4 := (HB1.out 4 _ rfl).c
    have z5 := (HB1.out 5 _ rfl).c
    have y0 := (HB1.out 0 _ rfl).f
    have y1 := (HB1.out 1 _ rfl).f
    have y2 := (HB1.out 2 _ rfl).f
    have y3 := (HB1.out 3 _ rfl).f
    have y4 := (HB1.out 4 _ rfl).f
    have y5 := (HB1.out 5 _ rfl).f
    have p0 := (HF1.out 0 _ rfl).c
    have p1 := (HF1.out 1 _ rfl).c
    have q0 := (HF1.out 0 _ rfl).f
    have q1 := (HF1.out 1 _ rfl).f
    obtain ⟨W7, hW7⟩ : ∃ W7, ((set6 w1 w.heap.size (.int .i64 xk) (.string (tx xc)) (.int .i64 xl) (.int .i64 xh) (.slice xa4 xn4 xc4) (.slice xa5 xn5 xc5)).setCell ⟨w.heap.size + 1, 0, none⟩ (.int .i64 0)).setCell ⟨w.heap.size + 1, 1, none⟩ (.int .i64 0) = W7 := ⟨_, rfl⟩
    have HB7 : Hid (Bx W7 w.heap.size [.int .i64 xk, .string (tx xc), .int .i64 xl, .int .i64 xh, .slice xa4 xn4 xc4, .slice xa5 xn5 xc5]) := hW7 ▸ ((set6_bx HB1.out _ _ _ _ _ _).oth (by omega) _).oth (by omega) _
    have HF6 : Hid (Bx (set6 w1 w.heap.size (.int .i64 xk) (.string (tx xc)) (.int .i64 xl) (.int .i64 xh) (.slice xa4 xn4 xc4) (.slice xa5 xn5 xc5)) (w.heap.size + 1) f0) := (((((HF1.out.oth (by omega) _).oth (by omega) _).oth (by omega) _).oth (by omega) _).oth (by omega) _).oth (by omega) _
    have HF7 : Hid (Bx W7 (w.heap.size + 1) [.int .i64 0, .int .i64 0]) := hW7 ▸ (HF6.out.set (i := 0) (by simp) _).set (i := 1) (by simp) _
    have HG7 : Hid (w.grownBy W7 none) := hW7 ▸ gb_new (gb_new (set6_gb (gb_none HBL1.out) (Nat.le_refl _) _ _ _ _ _ _) (p := ⟨w.heap.size + 1, 0, none⟩) (Nat.le_succ _) _) (p := ⟨w.heap.size + 1, 1, none⟩) (Nat.le_succ _) _
    have HQ7 : Hid (QV w.heap.size W7 a1 [.int .i64 xk, .string (tx xc), .int .i64 xl, .int .i64 xh, .slice xa4 xn4 xc4, .slice xa5 xn5 xc5]) := hW7 ▸ QV.mono (by omega) a1 (QV.kp (((set6_kp (by omega) _ _ _ _ _ _).trans (Kp.put (by omega) 0 _)).trans (Kp.put (by omega) 1 _)) a1 HQ1.out)
    unfold set6 at hW7
    go_wp2
    refine leaves_cons (f := 45) (args := #[.pointer (some ⟨w.heap.size + 1, 0, none⟩)]) (by simp) (by simp [go_sem]) ?_
    refine (catchA_ok _ _).mono ?_
    rintro e u' w'' ⟨rfl, rfl, rfl⟩
    have x0 := (HB7.out 0 _ rfl).c
    have x1 := (HB7.out 1 _ rfl).c
    have x2 := (HB7.out 2 _ rfl).c
    have x3 := (HB7.out 3 _ rfl).c
    have x4 := (HB7.out 4 _ rfl).c
    have x5 := (HB7.out 5 _ rfl).c
    have f0 := (HF7.out 0 _ rfl).c
    have f1 := (HF7.out 1 _ rfl).c
    simp [Leaves, settle, results, Tryz.results19, go_sem, x0, x1, x2, x3, x4, x5, f0, f1]
    exact ⟨by rw [HRR.out]; exact ⟨_, rfl, HQ7.out⟩, ⟨HG7.out.os, HG7.out.tape, HG7.out.output, HG7.out.size, fun k hk => HG7.out.block k hk (by simp)⟩⟩
end Go.Proofs.YtidfkencjdjkbaaGreatDoor
