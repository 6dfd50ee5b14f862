import Derived.Test.YtnoedkebmpfagaaWrg
/-
  WireFeeds: a stream, crumb by crumb: the walk of the law.
-/
namespace Go.Proofs.Ytnoedkebmpfagaa
open Go.RowKit Wc

theorem crmT_get : ∀ (l : List By) (s : Option By) (i : Nat) (b : By), l[i]? = some b → (crmT s l)[i]? = some (stpT (runT s (l.take i)) b).1
  | [], s, i, b, h => by simp at h
  | c :: l, s, 0, b, h => by
    simp only [List.getElem?_cons_zero, Option.some.injEq] at h
    subst h
    rw [crmT_cons]
    rfl
  | c :: l, s, i + 1, b, h => by
    simp only [List.getElem?_cons_succ] at h
    rw [crmT_cons, List.getElem?_cons_succ, crmT_get l _ i b h]
    rfl
theorem stp_ok {s : Option By} {b X : By} (h : (stpT s b).2 = some X) : feedT X = ([], X, false) := by
  cases s with
  | none => simp [stpT] at h
  | some Y =>
    simp only [stpT] at h
    split at h
    · cases h
    · rename_i hk
      simp only [Option.some.injEq] at h
      subst h
      exact feedT_left _ (by simpa using hk)
theorem run_ok : ∀ (l : List By) (s : Option By), (∀ X, s = some X → feedT X = ([], X, false)) → ∀ X, runT s l = some X → feedT X = ([], X, false)
  | [], _, h, X, hX => h X hX
  | b :: l, s, _, X, hX => run_ok l (stpT s b).2 (fun _ hY => stp_ok hY) X hX
/-- what the law holds of a stream -/
def HoV (st : Option By) (hv bv : Value) : Prop := match st with | none => bv = .bool true ∧ ∃ x, hv = .string (tx x) | some X => bv = .bool false ∧ hv = .string (tx X)
set_option maxHeartbeats 4000000 in
set_option maxRecDepth 100000 in
theorem wireFeeds_walk (lv : Value) (l : List By) (w : World) (h1 : Stl w w.heap.size lv l) (hb1 : l.length ≤ 1073741824) (hb2 : ∀ b ∈ l, b.length ≤ 549755813888) :
    Calls Try.prog 4 #[lv] w fun e w' => e = .returned (.bool true) ∧ Below w.heap.size w w' := by
  obtain ⟨la, lc, rfl, hlc, -⟩ := h1.slice
  have H1 : Hid (Stl w w.heap.size (.slice la l.length lc) l) := h1
  have H2 : Hid (∀ b ∈ l, b.length ≤ 549755813888) := hb2
  have kc := crumbs_any _ l w h1 (by omega) hb2
  unfold CrP at kc
  clear h1 hb2
  go_enter Try.func4, Try.ntmps4
  go_wp2_with fail
  refine kc.mono ?_
  rintro e w1 ⟨oa, oc, es, rfl, hes, hrow, heach, hfr, b1⟩
  clear kc
  have HES : Hid (es.map Fe.p = crmT (some []) l) := hes
  have HROW : Hid (w1.ownsRow w.heap.size 39 2 (.slice oa l.length oc) l.length (fl2 es)) := hrow
  have HEA : Hid (∀ e ∈ es, RowS w1 w.heap.size e.v e.fs) := heach
  have HB1 : Hid (Below w.heap.size w w1) := b1
  clear hes hrow heach hfr b1
  go_wp2_with fail
  go_loopw [19, 4, 5] (fun iv hv bv wr => ∃ (i : Nat), iv = .int .i64 (i : Int) ∧ i ≤ l.length ∧ Hid (HoV (runT (some []) (l.take i)) hv bv) ∧ Hid (Below w1.heap.size w1 wr)) (fun iv _ _ _ => l.length - (intOf iv).toNat)
  case atStart => exact ⟨0, rfl, Nat.zero_le _, ⟨rfl, rfl⟩, Below.refl _ _⟩
  case round =>
    obtain ⟨i, rfl, hi, HV, HB⟩ := hrel
    have hbz := HB.out.size
    have hbz1 := HB1.out.size
    by_cases c1 : i < l.length
    · have z1 : (i : Int) < (l.length : Int) := by omega
      obtain ⟨b', o, c', x, e1, _, _, hxx, hcx⟩ := ((H1.out.keep HB1.out).keep (HB.out.mono hbz1)).get (i := i) c1
      simp only [Value.slice.injEq] at e1
      obtain ⟨rfl, -, rfl⟩ := e1
      have hgi := crmT_get l (some []) i x hxx
      obtain ⟨e, he, hep⟩ : ∃ e, es[i]? = some e ∧ e.p = (stpT (runT (some []) (l.take i)) x).1 := by
        rw [← HES.out, List.getElem?_map] at hgi
        cases hq : es[i]? with
        | none => rw [hq] at hgi; simp at hgi
        | some e => rw [hq] at hgi; simp at hgi; exact ⟨e, rfl, hgi⟩
      obtain ⟨g, hoa, hgl, g0, g1⟩ := fe_get HROW.out he
      subst hoa
      have hmem : e ∈ es := List.mem_of_getElem? he
      have q0 := (HB.out.cell (p := ⟨g, i * 2, none⟩) hgl).trans g0
      have q1 := (HB.out.cell (p := ⟨g, i * 2 + 1, none⟩) hgl).trans g1
      have hRe := HEA.out e hmem
      have hxl := H2.out x (List.mem_of_getElem? hxx)
      have HT : Hid (runT (some []) (l.take (i + 1)) = (stpT (runT (some []) (l.take i)) x).2) := by
        rw [Hid, show l.take (i + 1) = l.take i ++ [x] by rw [List.take_add_one, hxx]; rfl, runT_snoc]
      obtain ⟨fa, fc, fs, er⟩ := e
      replace q0 : wr.cell? ⟨g, i * 2, none⟩ = some (.slice fa fs.length fc) := q0
      replace q1 : wr.cell? ⟨g, i * 2 + 1, none⟩ = some (.int .i64 er) := q1
      replace hRe : RowS w1 w.heap.size (.slice fa fs.length fc) fs := hRe
      clear g0 g1 hgi hxx he
      cases hst : runT (some []) (l.take i) with
      | none =>
        rw [hst] at HV hep HT
        obtain ⟨rfl, hx0, rfl⟩ := HV.out
        simp only [stpT, Fe.p, Prod.mk.injEq] at hep
        obtain ⟨rfl, rfl⟩ := hep
        simp only [List.length_nil] at q0
        clear HV hst hRe
        go_wp2
        go_roundw
        case rel => exact ⟨i + 1, by go_num, c1, by rw [HT.out]; exact ⟨rfl, _, rfl⟩, HB⟩
        case measure => simp [intOf]; omega
      | some X =>
        have hok := run_ok (l.take i) (some []) (by intro Y hY; simp only [Option.some.injEq] at hY; subst hY; exact feedT_few (by simp)) X hst
        rw [hst] at HV hep HT
        obtain ⟨rfl, rfl⟩ := HV.out
        have hXl := feedT_small X hok
        obtain ⟨L, rest, kk, hF⟩ : ∃ L r k, feedT (X ++ x) = (L, r, k) := ⟨_, _, _, rfl⟩
        simp only [stpT, hF, Fe.p, Prod.mk.injEq] at hep
        obtain ⟨rfl, her⟩ := hep
        have HT2 : Hid (runT (some []) (l.take (i + 1)) = if kk then none else some rest) := by rw [Hid, HT.out]; simp only [stpT, hF]
        have kf := rfeed_any (X ++ x) (by simp; omega) wr fs rest kk hF
        have hadd := tx_add X x
        have hlen : ¬ (9223372036854775807 < X.length + x.length) := by omega
        have hfsl : fs.length ≤ 1099511627776 := by have := (feedT_len (X ++ x)).2; rw [hF] at this; simp at this; omega
        clear HV hst hok HT hF
        go_wp2_with fail
        refine kf.mono ?_
        rintro e w2 ⟨ra, rc, rfl, hR2, b2⟩
        clear kf hcx
        have p0 := (b2.cell (p := ⟨g, i * 2, none⟩) (Nat.lt_of_lt_of_le hgl hbz)).trans q0
        have p1 := (b2.cell (p := ⟨g, i * 2 + 1, none⟩) (Nat.lt_of_lt_of_le hgl hbz)).trans q1
        have B12 : Below w1.heap.size w1 w2 := HB.out.trans (b2.mono hbz)
        have ks := sametexts_any (.slice fa fs.length fc) (.slice ra fs.length rc) fs w2 (((RowS.stl hRe (by omega)).keep B12).mono B12.size) (RowS.stl hR2 (by omega))
        have HB12 : Hid (Below w1.heap.size w1 w2) := B12
        clear hR2 q0 q1 b2 B12 hRe
        cases kk with
        | true =>
          obtain rfl : er = 2 := by simpa using her
          clear her
          go_wp2_with fail
          refine ks.mono ?_
          rintro e w3 ⟨rfl, b3⟩
          clear ks
          have r1 := (b3.cell (p := ⟨g, i * 2 + 1, none⟩) (Nat.lt_of_lt_of_le hgl HB12.out.size)).trans p1
          have HB3 : Hid (Below w1.heap.size w1 w3) := HB12.out.trans (b3.mono HB12.out.size)
          clear b3
          go_wp2
          go_roundw
          case rel => exact ⟨i + 1, by go_num, c1, by rw [HT2.out]; exact ⟨rfl, _, rfl⟩, HB3⟩
          case measure => simp [intOf]; omega
        | false =>
          obtain rfl : er = 0 := by simpa using her
          clear her
          go_wp2_with fail
          refine ks.mono ?_
          rintro e w3 ⟨rfl, b3⟩
          clear ks
          have r1 := (b3.cell (p := ⟨g, i * 2 + 1, none⟩) (Nat.lt_of_lt_of_le hgl HB12.out.size)).trans p1
          have HB3 : Hid (Below w1.heap.size w1 w3) := HB12.out.trans (b3.mono HB12.out.size)
          clear b3
          go_wp2
          go_roundw
          case rel => exact ⟨i + 1, by go_num, c1, by rw [HT2.out]; exact ⟨rfl, rfl⟩, HB3⟩
          case measure => simp [intOf]; omega
    · obtain rfl : i = l.length := by omega
      have z1 : ¬ (l.length : Int) < (l.length : Int) := by omega
      go_wp2
      go_ret
      exact ⟨rfl, HB1.out.trans (HB.out.mono hbz1)⟩
end Go.Proofs.Ytnoedkebmpfagaa
