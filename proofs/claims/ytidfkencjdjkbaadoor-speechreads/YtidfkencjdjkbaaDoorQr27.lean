import Derived.Test.YtidfkencjdjkbaaDoorQr26
import Derived.Test.YtidfkencjdjkbaaDoorQr24
/-
  The document's own answer, chapter 15: its pieces.
-/
namespace Go.Proofs.YtidfkencjdjkbaaDoor
open Go.RowKit Sp

theorem run_in (p : UInt8 → Bool) : ∀ (s : By) (j : Nat) (c : UInt8), j < runL p s → s[j]? = some c → p c = true
  | [], j, c, _, e => by simp at e
  | a :: r, j, c, h, e => by
    simp only [runL] at h
    by_cases hp : p a = true
    · rw [if_pos hp] at h
      cases j with
      | zero => simp at e; subst e; exact hp
      | succ j => exact run_in p r j c (by omega) (by simpa using e)
    · rw [if_neg hp] at h; omega
theorem run_out (p : UInt8 → Bool) : ∀ (s : By) (c : UInt8), s[runL p s]? = some c → p c = false
  | [], c, e => by simp at e
  | a :: r, c, e => by
    simp only [runL] at e
    by_cases hp : p a = true
    · rw [if_pos hp] at e; exact run_out p r c (by simpa using e)
    · rw [if_neg hp] at e; simp at e; subst e; simpa using hp
theorem lon_cases (c : UInt8) (s : By) : (letB c = true ∧ runL letB (c :: s) = lonN (c :: s) ∧ 0 < lonN (c :: s)) ∨ (letB c = false ∧ digB c = true ∧ runL digB (c :: s) = lonN (c :: s) ∧ 0 < lonN (c :: s)) ∨ (letB c = false ∧ digB c = false ∧ twoB ((c :: s).take 2) = true ∧ lonN (c :: s) = 2) ∨ (letB c = false ∧ digB c = false ∧ twoB ((c :: s).take 2) = false ∧ oneB c = true ∧ lonN (c :: s) = 1) ∨ (letB c = false ∧ digB c = false ∧ twoB ((c :: s).take 2) = false ∧ oneB c = false ∧ lonN (c :: s) = 0) := by
  rw [lonN_cons]
  cases h1 : letB c with
  | true => exact .inl ⟨rfl, rfl, (run_head letB c s).2 h1⟩
  | false =>
    cases h2 : digB c with
    | true => exact .inr (.inl ⟨rfl, rfl, rfl, (run_head digB c s).2 h2⟩)
    | false =>
      cases h3 : twoB ((c :: s).take 2) with
      | true => exact .inr (.inr (.inl ⟨rfl, rfl, rfl, rfl⟩))
      | false =>
        cases h4 : oneB c with
        | true => exact .inr (.inr (.inr (.inl ⟨rfl, rfl, rfl, rfl, rfl⟩)))
        | false => exact .inr (.inr (.inr (.inr ⟨rfl, rfl, rfl, rfl, rfl⟩)))
theorem two_len {s : By} (h : twoB s = true) : s.length = 2 := by
  simp only [twoB, decide_eq_true_eq, List.mem_cons, List.not_mem_nil, or_false] at h
  rcases h with rfl | rfl | rfl | rfl <;> rfl
theorem infop58 : (Tryd.prog.info? 58).map (fun i => (i.zero, i.size, i.bytes)) = some (some (.agg #[.string ⟨#[]⟩, .int .i64 0]), 2, 24) := by kernel_rfl
/-- pieces in memory -/
def PcA (w : World) (lo P0 c : Nat) (ps : List Pc) : Prop := lo ≤ P0 ∧ P0 < w.heap.size ∧ ps.length ≤ c ∧ ∀ (j : Nat) p, ps[j]? = some p → w.cell? ⟨P0, j * 2, none⟩ = some (.string (tx p.1)) ∧ w.cell? ⟨P0, j * 2 + 1, none⟩ = some (.int .i64 (p.2 : Int))
theorem pca_of {w : World} {base : Nat} {a : Option Addr} {n c : Nat} {ps : List Pc} (hn : n = ps.length) (ho : w.ownsRow base 58 2 (.slice a n c) n (pc2 ps)) (hne : ps ≠ []) : ∃ P0, a = some ⟨P0, 0, none⟩ ∧ PcA w base P0 c ps := by
  subst hn
  obtain ⟨p0, r0, rfl⟩ := List.exists_cons_of_ne_nil hne
  obtain ⟨g, hg, hg1, hg2, _⟩ := row_cell ho (pc2_at _ 0 p0 0 _ rfl rfl)
  subst hg
  have hcap : (p0 :: r0).length ≤ c := by
    rcases ho.2 with ⟨h1, _⟩ | ⟨g', cap, cur, hv, _, _, h1, h2, _⟩
    · cases h1
    · simp only [Value.slice.injEq] at hv
      obtain ⟨_, _, rfl⟩ := hv
      exact h1
  refine ⟨g, rfl, hg1, hg2, hcap, fun i p hp => ?_⟩
  obtain ⟨g1, e1, _, _, c1⟩ := row_cell ho (pc2_at _ i p 0 _ hp rfl)
  obtain ⟨g2, e2, _, _, c2⟩ := row_cell ho (pc2_at _ i p 1 _ hp rfl)
  simp only [Option.some.injEq, Addr.mk.injEq] at e1 e2
  obtain ⟨rfl, -⟩ := e1
  obtain ⟨rfl, -⟩ := e2
  exact ⟨by rw [show i * 2 = i * 2 + 0 by omega]; exact c1, c2⟩
theorem PcA.put {w : World} {lo P0 c b : Nat} {ps : List Pc} (h : PcA w lo P0 c ps) (hb : b < lo) (k : Nat) (u : Value) : PcA (w.setCell ⟨b, k, none⟩ u) lo P0 c ps := by
  obtain ⟨h1, h2, h3, h4⟩ := h
  exact ⟨h1, by simpa using h2, h3, fun j p hp => ⟨(sc_other (by intro e; simp only [Addr.mk.injEq] at e; omega)).trans (h4 j p hp).1, (sc_other (by intro e; simp only [Addr.mk.injEq] at e; omega)).trans (h4 j p hp).2⟩⟩
theorem PcA.at {w w' : World} {lo P0 c : Nat} {ps : List Pc} (h : PcA w lo P0 c ps) (hb : Below w.heap.size w w') : PcA w' lo P0 c ps := by
  obtain ⟨h1, h2, h3, h4⟩ := h
  exact ⟨h1, Nat.lt_of_lt_of_le h2 hb.size, h3, fun j p hp => ⟨(hb.cell (p := ⟨P0, j * 2, none⟩) h2).trans (h4 j p hp).1, (hb.cell (p := ⟨P0, j * 2 + 1, none⟩) h2).trans (h4 j p hp).2⟩⟩
/-- what Pieces answers -/
def PieP (t : By) (w : World) (e : Ending) (w' : World) : Prop :=
  (match cutT t 0 with | .ok ps => ∃ P0 c, e = .returned (.tuple #[.slice (some ⟨P0, 0, none⟩) ps.length c, .agg #[.int .i64 0, .int .i64 0]]) ∧ PcA w' w.heap.size P0 c ps | .error x => e = .returned (.tuple #[.slice none 0 0, .agg #[.int .i64 2, .int .i64 (x : Int)]])) ∧ Below w.heap.size w w'
set_option maxHeartbeats 2000000 in
set_option maxRecDepth 100000 in
theorem pieces_any (t : By) (ht : t.length ≤ 65536) (w : World) : Calls Tryd.prog 18 #[.string (tx t)] w (PieP t w) := by
  obtain ⟨i0, hi0, hz0, hz1, hz2⟩ := info_parts infop58
  obtain ⟨r, hr⟩ : ∃ r, cutT t 0 = r := ⟨_, rfl⟩
  have HRR : Hid (cutT t 0 = r) := hr
  have hsz : (tx t).size = t.length := by show t.toArray.size = _; simp
  obtain ⟨W0, hW0⟩ : ∃ W0, w.alloc (.cells #[.int .i64 0, .int .i64 0] 28) = W0 := ⟨_, rfl⟩
  have HBW : Hid (Below w.heap.size w W0) := hW0 ▸ ba _ _
  have HF0 : Hid (Bx W0 w.heap.size f0) := hW0 ▸ Bx.new w f0 28 rfl
  have hwl : w.heap.size < W0.heap.size := (HF0.out 0 _ rfl).lt
  clear hr
  go_enter Tryd.func18, Tryd.ntmps18
  go_wp2
  clear hW0
  go_loopw [4, 5] (fun ov av wr => ∃ (at' : Nat) (ps : List Pc) (oa : Option Addr) (oc : Nat), av = .int .i64 (at' : Int) ∧ ov = .slice oa ps.length oc ∧ at' ≤ t.length ∧ ps.length ≤ at' ∧ Hid (Sp.ahead ps (cutT (t.drop at') at') = r) ∧ Hid (wr.ownsRow W0.heap.size 58 2 (.slice oa ps.length oc) ps.length (pc2 ps)) ∧ Below W0.heap.size W0 wr) (fun _ av _ => t.length - (intOf av).toNat)
  case atStart => exact ⟨0, [], none, 0, rfl, rfl, Nat.zero_le _, Nat.zero_le _, by
    have h := HRR.out
    rw [List.drop_zero, Hid, h]
    cases r <;> rfl, ⟨rfl, .inl ⟨rfl, rfl⟩⟩, Below.refl _ _⟩
  case round =>
    obtain ⟨k, ps, oa, oc, rfl, rfl, hk, hpk, HP, HO, hbl⟩ := hrel
    by_cases c1 : k < t.length
    · obtain ⟨c, s, hcs⟩ : ∃ c s, t.drop k = c :: s := by
        cases hd : t.drop k with
        | nil => have := List.drop_eq_nil_iff.1 hd; omega
        | cons c s => exact ⟨c, s, rfl⟩
      have e0 : ∀ h, (tx t)[k]'h = c := fun h => by
        have h2 : t[k]? = some c := by
          have := congrArg List.head? hcs
          simpa using this
        have h3 : (tx t)[k]'h = t[k]'c1 := rfl
        rw [h3]
        exact Option.some.inj ((List.getElem?_eq_getElem c1).symm.trans h2)
      have hkz : (k : Int) < ((tx t).size : Int) := by rw [hsz]; omega
      have hkz2 : k < (tx t).size := by omega
      have hwk : IntKind.i64.wrap ((k : Int) + 1) = (k : Int) + 1 := by rw [IntKind.wrap_i64]; omega
      by_cases c2 : c = 32 ∨ c = 10
      · have HP2 : Hid (Sp.ahead ps (cutT (t.drop (k + 1)) (k + 1)) = r) := by
          have h := HP.out
          rw [hcs, cutT_sp c c2] at h
          have e : t.drop (k + 1) = s := by rw [← List.drop_drop, hcs]; rfl
          rw [Hid, e]
          exact h
        clear HP hcs
        rcases c2 with rfl | rfl
        · go_wp2
          go_roundw
          case rel => exact ⟨k + 1, ps, oa, oc, by go_num, rfl, c1, by omega, HP2, HO, hbl⟩
          case measure => simp [intOf]; omega
        · go_wp2
          go_roundw
          case rel => exact ⟨k + 1, ps, oa, oc, by go_num, rfl, c1, by omega, HP2, HO, hbl⟩
          case measure => simp [intOf]; omega
      · have q1 : ¬ c = 32 := fun e => c2 (.inl e)
        have q2 : ¬ c = 10 := fun e => c2 (.inr e)
        have q3 : ¬ (c.toNat : Int) = 32 := fun e => q1 (UInt8.toNat_inj.1 (by show c.toNat = 32; omega))
        have q4 : ¬ (c.toNat : Int) = 10 := fun e => q2 (UInt8.toNat_inj.1 (by show c.toNat = 10; omega))
        have q5 : ((c.toNat : Int) == 32) = false := by simpa using q3
        have q6 : ((c.toNat : Int) == 10) = false := by simpa using q4
        have hlc := lon_le c s
        have hcl : (c :: s).length = t.length - k := by rw [← hcs]; simp
        obtain ⟨L, hL⟩ : ∃ L, lonN (c :: s) = L := ⟨_, rfl⟩
        obtain ⟨E, hE⟩ : ∃ E, k + L = E := ⟨_, rfl⟩
        have HCS : Hid (t.drop k = c :: s) := hcs
        have hcc := lon_cases c s
        rw [hL] at hlc hcc
        clear hcs
        obtain ⟨wo, hwo⟩ : ∃ wo : World, wo = wr := ⟨_, rfl⟩
        subst hwo
        rcases hcc with ⟨b1, hru, hpos⟩ | ⟨b1, b2, hru, hpos⟩ | ⟨b1, b2, b3, hru⟩ | ⟨b1, b2, b3, b4, hru⟩ | ⟨b1, b2, b3, b4, hru⟩
        · have kl := rlet_any c.toNat wo true b1
          have hP := HP.out
          rw [HCS.out, cut_step c s c2, hL, if_neg (by omega), ahd_trans, ← HCS.out, List.drop_drop, hE] at hP
          have HP2 : Hid (Sp.ahead (ps ++ [((c :: s).take L, k)]) (cutT (t.drop E) E) = r) := by rw [← HCS.out]; exact hP
          have hx3 : (tx t).extract k E = tx ((c :: s).take L) := by rw [tx_ext, HCS.out, show E - k = L by omega]
          have HE : Hid (k + L = E) := hE
          have hE1 : k < E := by omega
          have hE2 : E ≤ t.length := by omega
          have he3 : E ≤ t.length := hE2
          have d4 : (E : Int) ≤ ((tx t).size : Int) := by rw [hsz]; omega
          have d5 : (k : Int) ≤ (E : Int) := by omega
          have d6 : (k : Int) < (E : Int) := by omega
          have HRU : Hid (runL letB (c :: s) = L) := hru
          clear hP HP hE hL hru hcl hlc
          generalize (c :: s).take L = T at *
          clear b1
          go_wp2_with fail
          refine kl.mono ?_
          rintro x w2 ⟨rfl, rfl⟩
          clear kl
          obtain ⟨wo, hwo⟩ : ∃ wo : World, wo = w2 := ⟨_, rfl⟩
          subst hwo
          go_wp2
          go_loopw [6] (fun ev wi => ∃ e : Nat, ev = .int .i64 (e : Int) ∧ k < e ∧ e ≤ E ∧ wi = wo) (fun ev _ => E - (intOf ev).toNat)
          case atStart => exact ⟨k + 1, by go_num, by omega, by omega, rfl⟩
          case round =>
            obtain ⟨e, rfl, he1, he2, rfl⟩ := hrel
            by_cases e1 : e < t.length
            · obtain ⟨d, hd⟩ : ∃ d, t[e]? = some d := ⟨_, List.getElem?_eq_getElem e1⟩
              have f0 : ∀ h, (tx t)[e]'h = d := fun h => by
                have h3 : (tx t)[e]'h = t[e]'e1 := rfl
                rw [h3]
                exact Option.some.inj ((List.getElem?_eq_getElem e1).symm.trans hd)
              have hez : (e : Int) < ((tx t).size : Int) := by rw [hsz]; omega
              have hez2 : e < (tx t).size := by omega
              have hez3 : (e : Int) < (t.length : Int) := by omega
              have hdc : (c :: s)[e - k]? = some d := by
                rw [← HCS.out, List.getElem?_drop, show k + (e - k) = e by omega]
                exact hd
              by_cases e2 : e < E
              · have hp : letB d = true := run_in letB (c :: s) (e - k) d (by have h1 := HRU.out; have h2 := HE.out; omega) hdc
                have kd := rlet_any d.toNat wr true hp
                clear hd hdc hp
                go_wp2_with fail
                refine kd.mono ?_
                rintro x w2 ⟨rfl, rfl⟩
                go_wp2
                go_roundw
                case rel => exact ⟨e + 1, by go_num, by omega, by omega, by first | rfl | trivial⟩
                case measure => simp [intOf]; omega
              · obtain rfl : e = E := by omega
                have hp : letB d = false := run_out letB (c :: s) d (by have h1 := HRU.out; have h2 := HE.out; rw [h1, show L = e - k by omega]; exact hdc)
                have kd := rlet_any d.toNat wr false hp
                clear hd hdc hp e2
                go_wp2_with fail
                refine kd.mono ?_
                rintro x w2 ⟨rfl, rfl⟩
                clear kd
                have hwz := hbl.size
                have HOA : Hid ((w2.alloc (.cells #[.string (tx T), .int .i64 (k : Int)] 58)).ownsRow W0.heap.size 58 2 (.slice oa ps.length oc) ps.length (pc2 ps)) := row_gb HO.out (gb_none (ba _ _)) (fun g hg e => by cases e)
                go_wp2_with (at_builtin; refine wpList_append_own_at _ rfl _ _ 51 rfl W0.heap.size 58 i0 (.agg #[.string ⟨#[]⟩, .int .i64 0]) 2 24 Tryd.underlying51 hi0 hz0 hz1 hz2 rfl (by decide) (.slice oa ps.length oc) ps.length (pc2 ps) rfl HOA.out ⟨w2.heap.size, 0, none⟩ 1 1 [.string (tx T), .int .i64 (k : Int)] rfl rfl (two_cells w2 _ _ _ _ rfl) (by intro z hz; simp at hz; rcases hz with rfl | rfl <;> rfl) (by unfold maxLen; omega) (by omega) (by simp; omega) ?_)
                intro nv w8 hown hgrow hnil hat
                obtain ⟨ma, mc, rfl⟩ := row_slice hown
                have HO8 : Hid (w8.ownsRow W0.heap.size 58 2 (.slice ma (ps ++ [(T, k)]).length mc) (ps ++ [(T, k)]).length (pc2 (ps ++ [(T, k)]))) := by
                  rw [Hid, pc2_snoc, List.length_append]
                  exact hown
                have hb8 : Below W0.heap.size W0 w8 := (hbl.alloc hbl.size _).grown hgrow (by simp; omega) (fun k e => (row_lt HOA.out e).1)
                have hle : (ps ++ [(T, k)]).length = ps.length + 1 := by simp
                clear hown hgrow hnil hat HOA
                go_wp2
                go_roundw
                case rel => exact ⟨e, ps ++ [(T, k)], ma, mc, by go_num, by rw [hle], he3, by rw [hle]; omega, HP2, HO8, hb8⟩
                case measure => simp [intOf]; omega
            · obtain rfl : e = E := by omega
              have hez4 : ¬ (e : Int) < (t.length : Int) := by omega
              have hwz := hbl.size
              have HOA : Hid ((wr.alloc (.cells #[.string (tx T), .int .i64 (k : Int)] 58)).ownsRow W0.heap.size 58 2 (.slice oa ps.length oc) ps.length (pc2 ps)) := row_gb HO.out (gb_none (ba _ _)) (fun g hg e => by cases e)
              go_wp2_with (at_builtin; refine wpList_append_own_at _ rfl _ _ 51 rfl W0.heap.size 58 i0 (.agg #[.string ⟨#[]⟩, .int .i64 0]) 2 24 Tryd.underlying51 hi0 hz0 hz1 hz2 rfl (by decide) (.slice oa ps.length oc) ps.length (pc2 ps) rfl HOA.out ⟨wr.heap.size, 0, none⟩ 1 1 [.string (tx T), .int .i64 (k : Int)] rfl rfl (two_cells wr _ _ _ _ rfl) (by intro z hz; simp at hz; rcases hz with rfl | rfl <;> rfl) (by unfold maxLen; omega) (by omega) (by simp; omega) ?_)
              intro nv w8 hown hgrow hnil hat
              obtain ⟨ma, mc, rfl⟩ := row_slice hown
              have HO8 : Hid (w8.ownsRow W0.heap.size 58 2 (.slice ma (ps ++ [(T, k)]).length mc) (ps ++ [(T, k)]).length (pc2 (ps ++ [(T, k)]))) := by
                rw [Hid, pc2_snoc, List.length_append]
                exact hown
              have hb8 : Below W0.heap.size W0 w8 := (hbl.alloc hbl.size _).grown hgrow (by simp; omega) (fun k e => (row_lt HOA.out e).1)
              have hle : (ps ++ [(T, k)]).length = ps.length + 1 := by simp
              clear hown hgrow hnil hat HOA
              go_wp2
              go_roundw
              case rel => exact ⟨e, ps ++ [(T, k)], ma, mc, by go_num, by rw [hle], he3, by rw [hle]; omega, HP2, HO8, hb8⟩
              case measure => simp [intOf]; omega
        · have kl := rlet_any c.toNat wo false b1
          have kg := rdig_any c.toNat wo true b2
          have hP := HP.out
          rw [HCS.out, cut_step c s c2, hL, if_neg (by omega), ahd_trans, ← HCS.out, List.drop_drop, hE] at hP
          have HP2 : Hid (Sp.ahead (ps ++ [((c :: s).take L, k)]) (cutT (t.drop E) E) = r) := by rw [← HCS.out]; exact hP
          have hx3 : (tx t).extract k E = tx ((c :: s).take L) := by rw [tx_ext, HCS.out, show E - k = L by omega]
          have HE : Hid (k + L = E) := hE
          have hE1 : k < E := by omega
          have hE2 : E ≤ t.length := by omega
          have he3 : E ≤ t.length := hE2
          have d4 : (E : Int) ≤ ((tx t).size : Int) := by rw [hsz]; omega
          have d5 : (k : Int) ≤ (E : Int) := by omega
          have d6 : (k : Int) < (E : Int) := by omega
          have HRU : Hid (runL digB (c :: s) = L) := hru
          clear hP HP hE hL hru hcl hlc
          generalize (c :: s).take L = T at *
          clear b1 b2
          go_wp2_with fail
          refine kl.mono ?_
          rintro x w2 ⟨rfl, rfl⟩
          clear kl
          go_wp2_with fail
          refine kg.mono ?_
          rintro x w3 ⟨rfl, rfl⟩
          clear kg
          obtain ⟨wo, hwo⟩ : ∃ wo : World, wo = w3 := ⟨_, rfl⟩
          subst hwo
          go_wp2
          go_loopw [6] (fun ev wi => ∃ e : Nat, ev = .int .i64 (e : Int) ∧ k < e ∧ e ≤ E ∧ wi = wo) (fun ev _ => E - (intOf ev).toNat)
          case atStart => exact ⟨k + 1, by go_num, by omega, by omega, rfl⟩
          case round =>
            obtain ⟨e, rfl, he1, he2, rfl⟩ := hrel
            by_cases e1 : e < t.length
            · obtain ⟨d, hd⟩ : ∃ d, t[e]? = some d := ⟨_, List.getElem?_eq_getElem e1⟩
              have f0 : ∀ h, (tx t)[e]'h = d := fun h => by
                have h3 : (tx t)[e]'h = t[e]'e1 := rfl
                rw [h3]
                exact Option.some.inj ((List.getElem?_eq_getElem e1).symm.trans hd)
              have hez : (e : Int) < ((tx t).size : Int) := by rw [hsz]; omega
              have hez2 : e < (tx t).size := by omega
              have hez3 : (e : Int) < (t.length : Int) := by omega
              have hdc : (c :: s)[e - k]? = some d := by
                rw [← HCS.out, List.getElem?_drop, show k + (e - k) = e by omega]
                exact hd
              by_cases e2 : e < E
              · have hp : digB d = true := run_in digB (c :: s) (e - k) d (by have h1 := HRU.out; have h2 := HE.out; omega) hdc
                have kd := rdig_any d.toNat wr true hp
                clear hd hdc hp
                go_wp2_with fail
                refine kd.mono ?_
                rintro x w2 ⟨rfl, rfl⟩
                go_wp2
                go_roundw
                case rel => exact ⟨e + 1, by go_num, by omega, by omega, by first | rfl | trivial⟩
                case measure => simp [intOf]; omega
              · obtain rfl : e = E := by omega
                have hp : digB d = false := run_out digB (c :: s) d (by have h1 := HRU.out; have h2 := HE.out; rw [h1, show L = e - k by omega]; exact hdc)
                have kd := rdig_any d.toNat wr false hp
                clear hd hdc hp e2
                go_wp2_with fail
                refine kd.mono ?_
                rintro x w2 ⟨rfl, rfl⟩
                clear kd
                have hwz := hbl.size
                have HOA : Hid ((w2.alloc (.cells #[.string (tx T), .int .i64 (k : Int)] 58)).ownsRow W0.heap.size 58 2 (.slice oa ps.length oc) ps.length (pc2 ps)) := row_gb HO.out (gb_none (ba _ _)) (fun g hg e => by cases e)
                go_wp2_with (at_builtin; refine wpList_append_own_at _ rfl _ _ 51 rfl W0.heap.size 58 i0 (.agg #[.string ⟨#[]⟩, .int .i64 0]) 2 24 Tryd.underlying51 hi0 hz0 hz1 hz2 rfl (by decide) (.slice oa ps.length oc) ps.length (pc2 ps) rfl HOA.out ⟨w2.heap.size, 0, none⟩ 1 1 [.string (tx T), .int .i64 (k : Int)] rfl rfl (two_cells w2 _ _ _ _ rfl) (by intro z hz; simp at hz; rcases hz with rfl | rfl <;> rfl) (by unfold maxLen; omega) (by omega) (by simp; omega) ?_)
                intro nv w8 hown hgrow hnil hat
                obtain ⟨ma, mc, rfl⟩ := row_slice hown
                have HO8 : Hid (w8.ownsRow W0.heap.size 58 2 (.slice ma (ps ++ [(T, k)]).length mc) (ps ++ [(T, k)]).length (pc2 (ps ++ [(T, k)]))) := by
                  rw [Hid, pc2_snoc, List.length_append]
                  exact hown
                have hb8 : Below W0.heap.size W0 w8 := (hbl.alloc hbl.size _).grown hgrow (by simp; omega) (fun k e => (row_lt HOA.out e).1)
                have hle : (ps ++ [(T, k)]).length = ps.length + 1 := by simp
                clear hown hgrow hnil hat HOA
                go_wp2
                go_roundw
                case rel => exact ⟨e, ps ++ [(T, k)], ma, mc, by go_num, by rw [hle], he3, by rw [hle]; omega, HP2, HO8, hb8⟩
                case measure => simp [intOf]; omega
            · obtain rfl : e = E := by omega
              have hez4 : ¬ (e : Int) < (t.length : Int) := by omega
              have hwz := hbl.size
              have HOA : Hid ((wr.alloc (.cells #[.string (tx T), .int .i64 (k : Int)] 58)).ownsRow W0.heap.size 58 2 (.slice oa ps.length oc) ps.length (pc2 ps)) := row_gb HO.out (gb_none (ba _ _)) (fun g hg e => by cases e)
              go_wp2_with (at_builtin; refine wpList_append_own_at _ rfl _ _ 51 rfl W0.heap.size 58 i0 (.agg #[.string ⟨#[]⟩, .int .i64 0]) 2 24 Tryd.underlying51 hi0 hz0 hz1 hz2 rfl (by decide) (.slice oa ps.length oc) ps.length (pc2 ps) rfl HOA.out ⟨wr.heap.size, 0, none⟩ 1 1 [.string (tx T), .int .i64 (k : Int)] rfl rfl (two_cells wr _ _ _ _ rfl) (by intro z hz; simp at hz; rcases hz with rfl | rfl <;> rfl) (by unfold maxLen; omega) (by omega) (by simp; omega) ?_)
              intro nv w8 hown hgrow hnil hat
              obtain ⟨ma, mc, rfl⟩ := row_slice hown
              have HO8 : Hid (w8.ownsRow W0.heap.size 58 2 (.slice ma (ps ++ [(T, k)]).length mc) (ps ++ [(T, k)]).length (pc2 (ps ++ [(T, k)]))) := by
                rw [Hid, pc2_snoc, List.length_append]
                exact hown
              have hb8 : Below W0.heap.size W0 w8 := (hbl.alloc hbl.size _).grown hgrow (by simp; omega) (fun k e => (row_lt HOA.out e).1)
              have hle : (ps ++ [(T, k)]).length = ps.length + 1 := by simp
              clear hown hgrow hnil hat HOA
              go_wp2
              go_roundw
              case rel => exact ⟨e, ps ++ [(T, k)], ma, mc, by go_num, by rw [hle], he3, by rw [hle]; omega, HP2, HO8, hb8⟩
              case measure => simp [intOf]; omega
        · have kl := rlet_any c.toNat wo false b1
          have kg := rdig_any c.toNat wo false b2
          obtain rfl : L = 2 := hru
          subst hE
          have hE : k + 2 = k + 2 := rfl
          have g1 : k + 2 ≤ t.length := by have := two_len b3; rw [List.length_take] at this; omega
          have g2 : (k : Int) + 2 ≤ (t.length : Int) := by omega
          have g3 : IntKind.i64.wrap ((k : Int) + 2) = (k : Int) + 2 := by rw [IntKind.wrap_i64]; omega
          have g4 : (k : Int) + 2 ≤ ((tx t).size : Int) := by rw [hsz]; omega
          have g5 : (k : Int) ≤ (k : Int) + 2 := by omega
          have g6 : ((k : Int) + 2).toNat = k + 2 := by omega
          have hx2 : (tx t).extract k (k + 2) = tx ((c :: s).take 2) := by rw [tx_ext, HCS.out, show k + 2 - k = 2 by omega]
          have k2 := rdou_any ((c :: s).take 2) true b3 wo
          have hP := HP.out
          rw [HCS.out, cut_step c s c2, hL, if_neg (by omega), ahd_trans, ← HCS.out, List.drop_drop] at hP
          have HP2 : Hid (Sp.ahead (ps ++ [((c :: s).take 2, k)]) (cutT (t.drop (k + 2)) (k + 2)) = r) := by rw [← HCS.out]; exact hP
          have hx3 : (tx t).extract k (k + 2) = tx ((c :: s).take 2) := by rw [tx_ext, HCS.out, show k + 2 - k = 2 by omega]
          have HE : Hid (True) := trivial
          have hE1 : k < k + 2 := by omega
          have hE2 : k + 2 ≤ t.length := by omega
          have he3 : k + 2 ≤ t.length := hE2
          have d4 : ((k : Int) + 2) ≤ ((tx t).size : Int) := by rw [hsz]; omega
          have d5 : (k : Int) ≤ ((k : Int) + 2) := by omega
          have d6 : (k : Int) < ((k : Int) + 2) := by omega
          have HRU : Hid (True) := trivial
          clear hP HP hE hL hcl hlc
          generalize (c :: s).take 2 = T at *
          clear b1 b2 b3 HE
          go_wp2_with fail
          refine kl.mono ?_
          rintro x w2 ⟨rfl, rfl⟩
          clear kl
          go_wp2_with fail
          refine kg.mono ?_
          rintro x w3 ⟨rfl, rfl⟩
          clear kg
          go_wp2_with fail
          refine k2.mono ?_
          rintro x w4 ⟨rfl, rfl⟩
          clear k2
          have hwz := hbl.size
          have HOA : Hid ((w4.alloc (.cells #[.string (tx T), .int .i64 (k : Int)] 58)).ownsRow W0.heap.size 58 2 (.slice oa ps.length oc) ps.length (pc2 ps)) := row_gb HO.out (gb_none (ba _ _)) (fun g hg e => by cases e)
          go_wp2_with (at_builtin; refine wpList_append_own_at _ rfl _ _ 51 rfl W0.heap.size 58 i0 (.agg #[.string ⟨#[]⟩, .int .i64 0]) 2 24 Tryd.underlying51 hi0 hz0 hz1 hz2 rfl (by decide) (.slice oa ps.length oc) ps.length (pc2 ps) rfl HOA.out ⟨w4.heap.size, 0, none⟩ 1 1 [.string (tx T), .int .i64 (k : Int)] rfl rfl (two_cells w4 _ _ _ _ rfl) (by intro z hz; simp at hz; rcases hz with rfl | rfl <;> rfl) (by unfold maxLen; omega) (by omega) (by simp; omega) ?_)
          intro nv w8 hown hgrow hnil hat
          obtain ⟨ma, mc, rfl⟩ := row_slice hown
          have HO8 : Hid (w8.ownsRow W0.heap.size 58 2 (.slice ma (ps ++ [(T, k)]).length mc) (ps ++ [(T, k)]).length (pc2 (ps ++ [(T, k)]))) := by
            rw [Hid, pc2_snoc, List.length_append]
            exact hown
          have hb8 : Below W0.heap.size W0 w8 := (hbl.alloc hbl.size _).grown hgrow (by simp; omega) (fun k e => (row_lt HOA.out e).1)
          have hle : (ps ++ [(T, k)]).length = ps.length + 1 := by simp
          clear hown hgrow hnil hat HOA
          go_wp2
          go_roundw
          case rel => exact ⟨k + 2, ps ++ [(T, k)], ma, mc, by go_num, by rw [hle], hE2, by rw [hle]; omega, HP2, HO8, hb8⟩
          case measure => simp [intOf]; omega
        · have kl := rlet_any c.toNat wo false b1
          have kg := rdig_any c.toNat wo false b2
          obtain rfl : L = 1 := hru
          subst hE
          have hE : k + 1 = k + 1 := rfl
          obtain ⟨T2, hT2⟩ : ∃ T2, (c :: s).take 2 = T2 := ⟨_, rfl⟩
          rw [hT2] at b3
          have HT2 : Hid ((c :: s).take 2 = T2) := hT2
          clear hT2
          have hP := HP.out
          rw [HCS.out, cut_step c s c2, hL, if_neg (by omega), ahd_trans, ← HCS.out, List.drop_drop] at hP
          have HP2 : Hid (Sp.ahead (ps ++ [((c :: s).take 1, k)]) (cutT (t.drop (k + 1)) (k + 1)) = r) := by rw [← HCS.out]; exact hP
          have hx3 : (tx t).extract k (k + 1) = tx ((c :: s).take 1) := by rw [tx_ext, HCS.out, show k + 1 - k = 1 by omega]
          have HE : Hid (True) := trivial
          have hE1 : k < k + 1 := by omega
          have hE2 : k + 1 ≤ t.length := by omega
          have he3 : k + 1 ≤ t.length := hE2
          have d4 : ((k : Int) + 1) ≤ ((tx t).size : Int) := by rw [hsz]; omega
          have d5 : (k : Int) ≤ ((k : Int) + 1) := by omega
          have d6 : (k : Int) < ((k : Int) + 1) := by omega
          have HRU : Hid (True) := trivial
          clear hP HP hE hL hcl hlc
          generalize (c :: s).take 1 = T at *
          clear HE
          by_cases hk2 : k + 2 ≤ t.length
          · have g1 : k + 2 ≤ t.length := hk2
            have g2 : (k : Int) + 2 ≤ (t.length : Int) := by omega
            have g3 : IntKind.i64.wrap ((k : Int) + 2) = (k : Int) + 2 := by rw [IntKind.wrap_i64]; omega
            have g4 : (k : Int) + 2 ≤ ((tx t).size : Int) := by rw [hsz]; omega
            have g5 : (k : Int) ≤ (k : Int) + 2 := by omega
            have g6 : ((k : Int) + 2).toNat = k + 2 := by omega
            have hx2 : (tx t).extract k (k + 2) = tx T2 := by rw [tx_ext, HCS.out, show k + 2 - k = 2 by omega, HT2.out]
            have k2 := rdou_any T2 false b3 wo
            clear b1 b2 b3
            go_wp2_with fail
            refine kl.mono ?_
            rintro x w2 ⟨rfl, rfl⟩
            clear kl
            go_wp2_with fail
            refine kg.mono ?_
            rintro x w3 ⟨rfl, rfl⟩
            clear kg
            go_wp2_with fail
            refine k2.mono ?_
            rintro x w4 ⟨rfl, rfl⟩
            clear k2
            have k1 := rone_any c.toNat w4 true (by rw [← one_mem]; exact b4)
            go_wp2_with fail
            refine k1.mono ?_
            rintro x w5 ⟨rfl, hb5⟩
            clear k1
            have hbl : Below W0.heap.size W0 w5 := bt hbl hb5
            have HO : Hid (w5.ownsRow W0.heap.size 58 2 (.slice oa ps.length oc) ps.length (pc2 ps)) := row_gb HO.out (gb_none hb5) (fun g hg e => by cases e)
            clear hb5
            have hwz := hbl.size
            have HOA : Hid ((w5.alloc (.cells #[.string (tx T), .int .i64 (k : Int)] 58)).ownsRow W0.heap.size 58 2 (.slice oa ps.length oc) ps.length (pc2 ps)) := row_gb HO.out (gb_none (ba _ _)) (fun g hg e => by cases e)
            go_wp2_with (at_builtin; refine wpList_append_own_at _ rfl _ _ 51 rfl W0.heap.size 58 i0 (.agg #[.string ⟨#[]⟩, .int .i64 0]) 2 24 Tryd.underlying51 hi0 hz0 hz1 hz2 rfl (by decide) (.slice oa ps.length oc) ps.length (pc2 ps) rfl HOA.out ⟨w5.heap.size, 0, none⟩ 1 1 [.string (tx T), .int .i64 (k : Int)] rfl rfl (two_cells w5 _ _ _ _ rfl) (by intro z hz; simp at hz; rcases hz with rfl | rfl <;> rfl) (by unfold maxLen; omega) (by omega) (by simp; omega) ?_)
            intro nv w8 hown hgrow hnil hat
            obtain ⟨ma, mc, rfl⟩ := row_slice hown
            have HO8 : Hid (w8.ownsRow W0.heap.size 58 2 (.slice ma (ps ++ [(T, k)]).length mc) (ps ++ [(T, k)]).length (pc2 (ps ++ [(T, k)]))) := by
              rw [Hid, pc2_snoc, List.length_append]
              exact hown
            have hb8 : Below W0.heap.size W0 w8 := (hbl.alloc hbl.size _).grown hgrow (by simp; omega) (fun k e => (row_lt HOA.out e).1)
            have hle : (ps ++ [(T, k)]).length = ps.length + 1 := by simp
            clear hown hgrow hnil hat HOA
            go_wp2
            go_roundw
            case rel => exact ⟨k + 1, ps ++ [(T, k)], ma, mc, by go_num, by rw [hle], hE2, by rw [hle]; omega, HP2, HO8, hb8⟩
            case measure => simp [intOf]; omega
          · have g1 : ¬ k + 2 ≤ t.length := hk2
            have g2 : ¬ (k : Int) + 2 ≤ (t.length : Int) := by omega
            have g3 : IntKind.i64.wrap ((k : Int) + 2) = (k : Int) + 2 := by rw [IntKind.wrap_i64]; omega
            have g4 : decide ((k : Int) + 2 ≤ (t.length : Int)) = false := by simp; omega
            clear b1 b2 b3
            go_wp2_with fail
            refine kl.mono ?_
            rintro x w2 ⟨rfl, rfl⟩
            clear kl
            go_wp2_with fail
            refine kg.mono ?_
            rintro x w3 ⟨rfl, rfl⟩
            clear kg
            have k1 := rone_any c.toNat w3 true (by rw [← one_mem]; exact b4)
            go_wp2_with fail
            refine k1.mono ?_
            rintro x w5 ⟨rfl, hb5⟩
            clear k1
            have hbl : Below W0.heap.size W0 w5 := bt hbl hb5
            have HO : Hid (w5.ownsRow W0.heap.size 58 2 (.slice oa ps.length oc) ps.length (pc2 ps)) := row_gb HO.out (gb_none hb5) (fun g hg e => by cases e)
            clear hb5
            have hwz := hbl.size
            have HOA : Hid ((w5.alloc (.cells #[.string (tx T), .int .i64 (k : Int)] 58)).ownsRow W0.heap.size 58 2 (.slice oa ps.length oc) ps.length (pc2 ps)) := row_gb HO.out (gb_none (ba _ _)) (fun g hg e => by cases e)
            go_wp2_with (at_builtin; refine wpList_append_own_at _ rfl _ _ 51 rfl W0.heap.size 58 i0 (.agg #[.string ⟨#[]⟩, .int .i64 0]) 2 24 Tryd.underlying51 hi0 hz0 hz1 hz2 rfl (by decide) (.slice oa ps.length oc) ps.length (pc2 ps) rfl HOA.out ⟨w5.heap.size, 0, none⟩ 1 1 [.string (tx T), .int .i64 (k : Int)] rfl rfl (two_cells w5 _ _ _ _ rfl) (by intro z hz; simp at hz; rcases hz with rfl | rfl <;> rfl) (by unfold maxLen; omega) (by omega) (by simp; omega) ?_)
            intro nv w8 hown hgrow hnil hat
            obtain ⟨ma, mc, rfl⟩ := row_slice hown
            have HO8 : Hid (w8.ownsRow W0.heap.size 58 2 (.slice ma (ps ++ [(T, k)]).length mc) (ps ++ [(T, k)]).length (pc2 (ps ++ [(T, k)]))) := by
              rw [Hid, pc2_snoc, List.length_append]
              exact hown
            have hb8 : Below W0.heap.size W0 w8 := (hbl.alloc hbl.size _).grown hgrow (by simp; omega) (fun k e => (row_lt HOA.out e).1)
            have hle : (ps ++ [(T, k)]).length = ps.length + 1 := by simp
            clear hown hgrow hnil hat HOA
            go_wp2
            go_roundw
            case rel => exact ⟨k + 1, ps ++ [(T, k)], ma, mc, by go_num, by rw [hle], hE2, by rw [hle]; omega, HP2, HO8, hb8⟩
            case measure => simp [intOf]; omega
        · have kl := rlet_any c.toNat wo false b1
          have kg := rdig_any c.toNat wo false b2
          obtain ⟨T2, hT2⟩ : ∃ T2, (c :: s).take 2 = T2 := ⟨_, rfl⟩
          rw [hT2] at b3
          have HT2 : Hid ((c :: s).take 2 = T2) := hT2
          clear hT2
          obtain rfl : .error k = r := by
            have hP := HP.out
            rw [HCS.out, cut_step c s c2, hL, if_pos hru] at hP
            exact hP
          clear HP hE hL hcl hlc
          by_cases hk2 : k + 2 ≤ t.length
          · have g1 : k + 2 ≤ t.length := hk2
            have g2 : (k : Int) + 2 ≤ (t.length : Int) := by omega
            have g3 : IntKind.i64.wrap ((k : Int) + 2) = (k : Int) + 2 := by rw [IntKind.wrap_i64]; omega
            have g4 : (k : Int) + 2 ≤ ((tx t).size : Int) := by rw [hsz]; omega
            have g5 : (k : Int) ≤ (k : Int) + 2 := by omega
            have g6 : ((k : Int) + 2).toNat = k + 2 := by omega
            have hx2 : (tx t).extract k (k + 2) = tx T2 := by rw [tx_ext, HCS.out, show k + 2 - k = 2 by omega, HT2.out]
            have k2 := rdou_any T2 false b3 wo
            clear b1 b2 b3
            go_wp2_with fail
            refine kl.mono ?_
            rintro x w2 ⟨rfl, rfl⟩
            clear kl
            go_wp2_with fail
            refine kg.mono ?_
            rintro x w3 ⟨rfl, rfl⟩
            clear kg
            go_wp2_with fail
            refine k2.mono ?_
            rintro x w4 ⟨rfl, rfl⟩
            clear k2
            have k1 := rone_any c.toNat w4 false (by rw [← one_mem]; exact b4)
            go_wp2_with fail
            refine k1.mono ?_
            rintro x w5 ⟨rfl, hb5⟩
            clear k1
            have hbl : Below W0.heap.size W0 w5 := bt hbl hb5
            have HF5 : Hid (Bx w5 w.heap.size f0) := HF0.out.at hbl
            have p0 := (HF5.out 0 _ rfl).c
            have p1 := (HF5.out 1 _ rfl).c
            have v0 := (HF5.out 0 _ rfl).f
            have v1 := (HF5.out 1 _ rfl).f
            obtain ⟨W7, hW7⟩ : ∃ W7, (w5.setCell ⟨w.heap.size, 0, none⟩ (.int .i64 2)).setCell ⟨w.heap.size, 1, none⟩ (.int .i64 (k : Int)) = W7 := ⟨_, rfl⟩
            have HF7 : Hid (Bx W7 w.heap.size [.int .i64 2, .int .i64 (k : Int)]) := hW7 ▸ (HF5.out.set (i := 0) (by simp) _).set (i := 1) (by simp) _
            have HB7 : Hid (Below w.heap.size w W7) := hW7 ▸ bs (bs (bt HBW.out hbl) (p := ⟨w.heap.size, 0, none⟩) (Nat.le_refl _) _) (p := ⟨w.heap.size, 1, none⟩) (Nat.le_refl _) _
            clear hb5 hbl
            go_wp2
            clear hW7
            have x0 := (HF7.out 0 _ rfl).c
            have x1 := (HF7.out 1 _ rfl).c
            exact bodyPost_ret (v := .tuple #[.slice none 0 0, .agg #[.int .i64 2, .int .i64 (k : Int)]]) (by simp [results, Tryd.results18, go_sem, x0, x1]) rfl ⟨by rw [HRR.out], HB7.out⟩
          · have g1 : ¬ k + 2 ≤ t.length := hk2
            have g2 : ¬ (k : Int) + 2 ≤ (t.length : Int) := by omega
            have g3 : IntKind.i64.wrap ((k : Int) + 2) = (k : Int) + 2 := by rw [IntKind.wrap_i64]; omega
            have g4 : decide ((k : Int) + 2 ≤ (t.length : Int)) = false := by simp; omega
            clear b1 b2 b3
            go_wp2_with fail
            refine kl.mono ?_
            rintro x w2 ⟨rfl, rfl⟩
            clear kl
            go_wp2_with fail
            refine kg.mono ?_
            rintro x w3 ⟨rfl, rfl⟩
            clear kg
            have k1 := rone_any c.toNat w3 false (by rw [← one_mem]; exact b4)
            go_wp2_with fail
            refine k1.mono ?_
            rintro x w5 ⟨rfl, hb5⟩
            clear k1
            have hbl : Below W0.heap.size W0 w5 := bt hbl hb5
            have HF5 : Hid (Bx w5 w.heap.size f0) := HF0.out.at hbl
            have p0 := (HF5.out 0 _ rfl).c
            have p1 := (HF5.out 1 _ rfl).c
            have v0 := (HF5.out 0 _ rfl).f
            have v1 := (HF5.out 1 _ rfl).f
            obtain ⟨W7, hW7⟩ : ∃ W7, (w5.setCell ⟨w.heap.size, 0, none⟩ (.int .i64 2)).setCell ⟨w.heap.size, 1, none⟩ (.int .i64 (k : Int)) = W7 := ⟨_, rfl⟩
            have HF7 : Hid (Bx W7 w.heap.size [.int .i64 2, .int .i64 (k : Int)]) := hW7 ▸ (HF5.out.set (i := 0) (by simp) _).set (i := 1) (by simp) _
            have HB7 : Hid (Below w.heap.size w W7) := hW7 ▸ bs (bs (bt HBW.out hbl) (p := ⟨w.heap.size, 0, none⟩) (Nat.le_refl _) _) (p := ⟨w.heap.size, 1, none⟩) (Nat.le_refl _) _
            clear hb5 hbl
            go_wp2
            clear hW7
            have x0 := (HF7.out 0 _ rfl).c
            have x1 := (HF7.out 1 _ rfl).c
            exact bodyPost_ret (v := .tuple #[.slice none 0 0, .agg #[.int .i64 2, .int .i64 (k : Int)]]) (by simp [results, Tryd.results18, go_sem, x0, x1]) rfl ⟨by rw [HRR.out], HB7.out⟩
    · obtain rfl : k = t.length := by omega
      have hP := HP.out
      rw [List.drop_length, cutT_nil] at hP
      obtain rfl : .ok (ps ++ [([], t.length)]) = r := hP
      have HOA : Hid ((wr.alloc (.cells #[.string (tx []), .int .i64 (t.length : Int)] 58)).ownsRow W0.heap.size 58 2 (.slice oa ps.length oc) ps.length (pc2 ps)) := row_gb HO.out (gb_none (ba _ _)) (fun g hg e => by cases e)
      have hbs := hbl.size
      clear HP HO
      go_wp2_with (at_builtin; refine wpList_append_own_at _ rfl _ _ 51 rfl W0.heap.size 58 i0 (.agg #[.string ⟨#[]⟩, .int .i64 0]) 2 24 Tryd.underlying51 hi0 hz0 hz1 hz2 rfl (by decide) (.slice oa ps.length oc) ps.length (pc2 ps) rfl HOA.out ⟨wr.heap.size, 0, none⟩ 1 1 [.string (tx ([] : By)), .int .i64 (t.length : Int)] rfl rfl (two_cells wr _ _ _ _ rfl) (by intro z hz; simp at hz; rcases hz with rfl | rfl <;> rfl) (by unfold maxLen; omega) (by omega) (by simp; omega) ?_)
      intro nv w8 hown hgrow hnil hat
      obtain ⟨ma, mc, rfl⟩ := row_slice hown
      have hb8 : Below W0.heap.size W0 w8 := (hbl.alloc hbl.size _).grown hgrow (by simp; omega) (fun k e => (row_lt HOA.out e).1)
      obtain ⟨P0, rfl, hpa⟩ := pca_of (n := ps.length + 1) (ps := ps ++ [(([] : By), t.length)]) (by simp) (by rw [pc2_snoc]; exact hown) (by simp)
      have HPA : Hid (PcA w8 W0.heap.size P0 mc (ps ++ [(([] : By), t.length)])) := hpa
      have HF8 : Hid (Bx w8 w.heap.size f0) := HF0.out.at hb8
      have HB8 : Hid (Below w.heap.size w w8) := bt HBW.out hb8
      clear hown hgrow hnil hat HOA hpa hb8 hbl
      have p0 := (HF8.out 0 _ rfl).c
      have p1 := (HF8.out 1 _ rfl).c
      have v0 := (HF8.out 0 _ rfl).f
      have v1 := (HF8.out 1 _ rfl).f
      obtain ⟨W9, hW9⟩ : ∃ W9, (w8.setCell ⟨w.heap.size, 0, none⟩ (.int .i64 0)).setCell ⟨w.heap.size, 1, none⟩ (.int .i64 0) = W9 := ⟨_, rfl⟩
      have HF9 : Hid (Bx W9 w.heap.size [.int .i64 0, .int .i64 0]) := hW9 ▸ (HF8.out.set (i := 0) (by simp) _).set (i := 1) (by simp) _
      have HB9 : Hid (Below w.heap.size w W9) := hW9 ▸ bs (bs HB8.out (p := ⟨w.heap.size, 0, none⟩) (Nat.le_refl _) _) (p := ⟨w.heap.size, 1, none⟩) (Nat.le_refl _) _
      have HPA9 : Hid (PcA W9 W0.heap.size P0 mc (ps ++ [(([] : By), t.length)])) := hW9 ▸ (HPA.out.put hwl 0 _).put hwl 1 _
      go_wp2
      clear hW9
      have x0 := (HF9.out 0 _ rfl).c
      have x1 := (HF9.out 1 _ rfl).c
      have hle : (ps ++ [(([] : By), t.length)]).length = ps.length + 1 := by simp
      exact bodyPost_ret (v := .tuple #[.slice (some ⟨P0, 0, none⟩) (ps.length + 1) mc, .agg #[.int .i64 0, .int .i64 0]]) (by simp [results, Tryd.results18, go_sem, x0, x1]) rfl ⟨by rw [HRR.out]; exact ⟨P0, mc, by rw [hle], by obtain ⟨h1, h2⟩ := HPA9.out; exact ⟨by omega, h2⟩⟩, HB9.out⟩
end Go.Proofs.YtidfkencjdjkbaaDoor
