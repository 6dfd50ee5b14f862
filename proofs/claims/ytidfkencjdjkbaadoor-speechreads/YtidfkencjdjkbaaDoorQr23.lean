import Derived.Test.YtidfkencjdjkbaaDoorQr22
/-
  PACKAGE speech: cut.
-/
namespace Go.Proofs.YtidfkencjdjkbaaDoor
open Go.RowKit Sp

def pc2 (l : List Pc) : List Value := l.flatMap fun p => [.string (tx p.1), .int .i64 (p.2 : Int)]
theorem pc2_snoc (l : List Pc) (p : Pc) : pc2 (l ++ [p]) = pc2 l ++ [.string (tx p.1), .int .i64 (p.2 : Int)] := by simp [pc2]
theorem pc2_at : ∀ (l : List Pc) (i : Nat) (p : Pc) (j : Nat) (u : Value), l[i]? = some p → ([.string (tx p.1), .int .i64 (p.2 : Int)] : List Value)[j]? = some u → (pc2 l)[i * 2 + j]? = some u
  | [], i, t, j, u, h, _ => by simp at h
  | s :: l, 0, t, j, u, h, hj => by
    simp only [List.getElem?_cons_zero, Option.some.injEq] at h
    subst h
    have hlt := (List.getElem?_eq_some_iff.1 hj).1
    simp at hlt
    simp only [pc2, List.flatMap_cons, Nat.zero_mul, Nat.zero_add]
    rw [List.getElem?_append_left (by simp; omega)]
    exact hj
  | s :: l, i + 1, t, j, u, h, hj => by
    simp only [List.getElem?_cons_succ] at h
    have ih := pc2_at l i t j u h hj
    simp only [pc2, List.flatMap_cons] at ih ⊢
    rw [List.getElem?_append_right (by simp; omega)]
    simp only [List.length_cons, List.length_nil]
    rw [show (i + 1) * 2 + j - (0 + 1 + 1) = i * 2 + j by omega]
    exact ih
theorem infop71 : (Tryd.prog.info? 71).map (fun i => (i.zero, i.size, i.bytes)) = some (some (.agg #[.string ⟨#[]⟩, .int .i64 0]), 2, 24) := by kernel_rfl
/-- what cut answers -/
def CutP (t : By) (w : World) (e : Ending) (w' : World) : Prop :=
  (match cutT t 0 with | .ok ps => ∃ a c, e = .returned (.slice a ps.length c) ∧ w'.ownsRow w.heap.size 71 2 (.slice a ps.length c) ps.length (pc2 ps) | .error x => e = .panicked (chn 2 x)) ∧ Below w.heap.size w w'
theorem ahd_trans (ps qs : List Pc) (r : Except Nat (List Pc)) : Sp.ahead ps (Sp.ahead qs r) = Sp.ahead (ps ++ qs) r := by
  cases r with
  | error e => rfl
  | ok l => simp [Sp.ahead]
set_option maxHeartbeats 2000000 in
set_option maxRecDepth 100000 in
theorem cut_any (t : By) (ht : t.length ≤ 65536) (w : World) : Calls Tryd.prog 13 #[.string (tx t)] w (CutP t w) := by
  obtain ⟨i0, hi0, hz0, hz1, hz2⟩ := info_parts infop71
  obtain ⟨r, hr⟩ : ∃ r, cutT t 0 = r := ⟨_, rfl⟩
  have HRR : Hid (cutT t 0 = r) := hr
  have hsz : (tx t).size = t.length := by show t.toArray.size = _; simp
  clear hr
  go_enter Tryd.func13, Tryd.ntmps13
  go_wp2
  go_loopw [3, 4] (fun ov av wr => ∃ (at' : Nat) (ps : List Pc) (oa : Option Addr) (oc : Nat), av = .int .i64 (at' : Int) ∧ ov = .slice oa ps.length oc ∧ at' ≤ t.length ∧ ps.length ≤ at' ∧ Hid (Sp.ahead ps (cutT (t.drop at') at') = r) ∧ Hid (wr.ownsRow w.heap.size 71 2 (.slice oa ps.length oc) ps.length (pc2 ps)) ∧ Below w.heap.size w wr) (fun _ av _ => t.length - (intOf av).toNat)
  case atStart => exact ⟨0, [], none, 0, rfl, rfl, Nat.zero_le _, Nat.zero_le _, by
    have h := HRR.out
    rw [List.drop_zero, Hid, h]
    cases r <;> rfl, ⟨rfl, .inl ⟨rfl, rfl⟩⟩, Below.refl _ _⟩
  case round =>
    obtain ⟨k, ps, oa, oc, rfl, rfl, hk, hpk, HP, HO, hbl⟩ := hrel
    by_cases c1 : k < t.length
    · obtain ⟨c, s, hcs⟩ : ∃ c s, t.drop k = c :: s := by
        cases hd : t.drop k with
        | nil => have := List.drop_eq_nil_iff.1 hd; omega
        | cons c s => exact ⟨c, s, rfl⟩
      have e0 : ∀ h, (tx t)[k]'h = c := fun h => by
        have h2 : t[k]? = some c := by
          have := congrArg List.head? hcs
          simpa using this
        have h3 : (tx t)[k]'h = t[k]'c1 := rfl
        rw [h3]
        exact Option.some.inj ((List.getElem?_eq_getElem c1).symm.trans h2)
      have hslen : s.length ≤ 65536 := by
        have := congrArg List.length hcs
        simp at this
        omega
      have hkz : (k : Int) < ((tx t).size : Int) := by rw [hsz]; omega
      have hkz2 : k < (tx t).size := by omega
      by_cases c2 : c = 32 ∨ c = 10
      · have HP2 : Hid (Sp.ahead ps (cutT (t.drop (k + 1)) (k + 1)) = r) := by
          have h := HP.out
          rw [hcs, cutT_sp c c2] at h
          have e : t.drop (k + 1) = s := by rw [← List.drop_drop, hcs]; rfl
          rw [Hid, e]
          exact h
        clear HP hcs
        rcases c2 with rfl | rfl
        · go_wp2
          go_roundw
          case rel => exact ⟨k + 1, ps, oa, oc, by go_num, rfl, c1, by omega, HP2, HO, hbl⟩
          case measure => simp [intOf]; omega
        · go_wp2
          go_roundw
          case rel => exact ⟨k + 1, ps, oa, oc, by go_num, rfl, c1, by omega, HP2, HO, hbl⟩
          case measure => simp [intOf]; omega
      · have q1 : ¬ c = 32 := fun e => c2 (.inl e)
        have q2 : ¬ c = 10 := fun e => c2 (.inr e)
        have q3 : ¬ (c.toNat : Int) = 32 := fun e => q1 (UInt8.toNat_inj.1 (by show c.toNat = 32; omega))
        have q4 : ¬ (c.toNat : Int) = 10 := fun e => q2 (UInt8.toNat_inj.1 (by show c.toNat = 10; omega))
        have q5 : ((c.toNat : Int) == 32) = false := by simpa using q3
        have q6 : ((c.toNat : Int) == 10) = false := by simpa using q4
        have kl := long_any c s hslen wr
        have hlc := lon_le c s
        have hcl : (c :: s).length = t.length - k := by rw [← hcs]; simp
        obtain ⟨L, hL⟩ : ∃ L, lonN (c :: s) = L := ⟨_, rfl⟩
        rw [hL] at kl hlc
        have hx1 : (tx t).extract k (tx t).size = tx (c :: s) := by
          rw [tx_ext, hcs, hsz, List.take_of_length_le (by rw [hcl]; exact Nat.le_refl _)]
        have hx2 : (tx t).extract k t.length = tx (c :: s) := by rw [← hsz]; exact hx1
        have HL : Hid (lonN (c :: s) = L) := hL
        clear hL
        have hP := HP.out
        rw [hcs, cut_step c s c2, HL.out] at hP
        by_cases c3 : L = 0
        · subst c3
          rw [if_pos rfl] at hP
          obtain rfl : .error k = r := hP
          have km := must_no 2 (k : Int) wr
          clear HP
          go_wp2_with fail
          refine kl.mono ?_
          rintro e w2 ⟨rfl, rfl⟩
          go_wp2_with fail
          refine km.mono ?_
          rintro e w3 ⟨rfl, rfl⟩
          go_wp2
          exact ⟨rfl, by rw [HRR.out], hbl⟩
        · rw [if_neg c3, ahd_trans, ← hcs, List.drop_drop] at hP
          have HP2 : Hid (Sp.ahead (ps ++ [((c :: s).take L, k)]) (cutT (t.drop (k + L)) (k + L)) = r) := by rw [← hcs]; exact hP
          have km := must_ok 2 (k : Int) wr
          have c4 : 0 < L := by omega
          have c5 : (0 : Int) < (L : Int) := by omega
          have c6 : decide (0 < L) = true := by simpa using c4
          have hkl : k + L ≤ t.length := by omega
          have hx3 : (tx t).extract k (k + L) = tx ((c :: s).take L) := by rw [tx_ext, hcs, Nat.add_sub_cancel_left]
          have HOA : Hid ((wr.alloc (.cells #[.string (tx ((c :: s).take L)), .int .i64 (k : Int)] 71)).ownsRow w.heap.size 71 2 (.slice oa ps.length oc) ps.length (pc2 ps)) := row_gb HO.out (gb_none (ba _ _)) (fun g hg e => by cases e)
          have hbs := hbl.size
          have d1 : ((k : Int) + (L : Int)) ≤ ((tx t).size : Int) := by rw [hsz]; omega
          have d2 : (k : Int) ≤ (k : Int) + (L : Int) := by omega
          have d3 : IntKind.i64.wrap ((k : Int) + (L : Int)) = ((k + L : Nat) : Int) := by rw [IntKind.wrap_i64]; omega
          have d4 : ((k + L : Nat) : Int) ≤ ((tx t).size : Int) := by rw [hsz]; omega
          have d5 : (k : Int) ≤ ((k + L : Nat) : Int) := by omega
          clear hP HP hcs HL hcl
          generalize (c :: s).take L = T at *
          go_wp2_with fail
          refine kl.mono ?_
          rintro e w2 ⟨rfl, rfl⟩
          clear kl
          go_wp2_with fail
          refine km.mono ?_
          rintro e w3 ⟨rfl, rfl⟩
          clear km
          go_wp2_with (at_builtin; refine wpList_append_own_at _ rfl _ _ 39 rfl w.heap.size 71 i0 (.agg #[.string ⟨#[]⟩, .int .i64 0]) 2 24 Tryd.underlying39 hi0 hz0 hz1 hz2 rfl (by decide) (.slice oa ps.length oc) ps.length (pc2 ps) rfl HOA.out ⟨w3.heap.size, 0, none⟩ 1 1 [.string (tx T), .int .i64 (k : Int)] rfl rfl (two_cells w3 _ _ _ _ rfl) (by intro z hz; simp at hz; rcases hz with rfl | rfl <;> rfl) (by unfold maxLen; omega) (by omega) (by simp; omega) ?_)
          intro nv w8 hown hgrow hnil hat
          obtain ⟨ma, mc, rfl⟩ := row_slice hown
          have HO8 : Hid (w8.ownsRow w.heap.size 71 2 (.slice ma (ps ++ [(T, k)]).length mc) (ps ++ [(T, k)]).length (pc2 (ps ++ [(T, k)]))) := by
            rw [Hid, pc2_snoc, List.length_append]
            exact hown
          have hb8 : Below w.heap.size w w8 := (hbl.alloc hbl.size _).grown hgrow (by simp; omega) (fun k e => (row_lt HOA.out e).1)
          have hle : (ps ++ [(T, k)]).length = ps.length + 1 := by simp
          clear hown hgrow hnil hat HOA
          go_wp2
          go_roundw
          case rel => exact ⟨k + L, ps ++ [(T, k)], ma, mc, by go_num, by rw [hle], hkl, by rw [hle]; omega, HP2, HO8, hb8⟩
          case measure => simp [intOf]; omega
    · obtain rfl : k = t.length := by omega
      have hP := HP.out
      rw [List.drop_length, cutT_nil] at hP
      obtain rfl : .ok (ps ++ [([], t.length)]) = r := hP
      have HOA : Hid ((wr.alloc (.cells #[.string (tx []), .int .i64 (t.length : Int)] 71)).ownsRow w.heap.size 71 2 (.slice oa ps.length oc) ps.length (pc2 ps)) := row_gb HO.out (gb_none (ba _ _)) (fun g hg e => by cases e)
      have hbs := hbl.size
      clear HP HO
      go_wp2_with (at_builtin; refine wpList_append_own_at _ rfl _ _ 39 rfl w.heap.size 71 i0 (.agg #[.string ⟨#[]⟩, .int .i64 0]) 2 24 Tryd.underlying39 hi0 hz0 hz1 hz2 rfl (by decide) (.slice oa ps.length oc) ps.length (pc2 ps) rfl HOA.out ⟨wr.heap.size, 0, none⟩ 1 1 [.string (tx ([] : By)), .int .i64 (t.length : Int)] rfl rfl (two_cells wr _ _ _ _ rfl) (by intro z hz; simp at hz; rcases hz with rfl | rfl <;> rfl) (by unfold maxLen; omega) (by omega) (by simp; omega) ?_)
      intro nv w8 hown hgrow hnil hat
      obtain ⟨ma, mc, rfl⟩ := row_slice hown
      have HO8 : Hid (w8.ownsRow w.heap.size 71 2 (.slice ma (ps ++ [(([] : By), t.length)]).length mc) (ps ++ [(([] : By), t.length)]).length (pc2 (ps ++ [(([] : By), t.length)]))) := by
        rw [Hid, pc2_snoc, List.length_append]
        exact hown
      have hb8 : Below w.heap.size w w8 := (hbl.alloc hbl.size _).grown hgrow (by simp; omega) (fun k e => (row_lt HOA.out e).1)
      have hle : (ps ++ [(([] : By), t.length)]).length = ps.length + 1 := by simp
      clear hown hgrow hnil hat HOA
      go_wp2
      go_ret
      exact ⟨by rw [HRR.out]; exact ⟨ma, mc, by rw [hle]; rfl, HO8.out⟩, hb8⟩
end Go.Proofs.YtidfkencjdjkbaaDoor
