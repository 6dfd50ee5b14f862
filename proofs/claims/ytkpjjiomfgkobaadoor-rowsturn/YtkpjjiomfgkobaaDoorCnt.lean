import Derived.Test.YtkpjjiomfgkobaaDoorCel
import Derived.OwnWalk
import Derived.Laws.MakeOwn
namespace Go.Proofs.YtkpjjiomfgkobaaDoor
open Go.RowKit Go.Proofs.YtkpjjiomfgkobaaDoor.Ds

theorem info3 : (Tryd.prog.info? 3).map (fun i => (i.zero, i.size, i.bytes)) = some (some (.int .i64 0), 1, 8) := by kernel_rfl

/-- a row of numbers that may be written -/
structure RowI (w : World) (g : Nat) (xs : List Int) : Prop where
  cells : ∀ i x, xs[i]? = some x → w.cell? ⟨g, i, none⟩ = some (.int .i64 x)
  thaw : ∀ i, i < xs.length → w.frozen? ⟨g, i, none⟩ = false
  lt : g < w.heap.size
theorem RowI.keep {w w' : World} {g N : Nat} {xs : List Int} (h : RowI w g xs) (hb : Below N w w') (hg : g < N) : RowI w' g xs :=
  ⟨fun i x hi => (hb.cell (p := ⟨g, i, none⟩) hg).trans (h.cells i x hi), fun i hi => (hb.frozen (p := ⟨g, i, none⟩) hg).trans (h.thaw i hi), Nat.lt_of_lt_of_le h.lt hb.size⟩
theorem RowI.set {w : World} {g : Nat} {xs : List Int} (h : RowI w g xs) (i : Nat) (k : Int) : RowI (w.setCell ⟨g, i, none⟩ (.int .i64 k)) g (xs.set i k) := by
  refine ⟨fun j x hj => ?_, fun j hj => by rw [sc_frozen]; exact h.thaw j (by simpa using hj), by simpa using h.lt⟩
  by_cases e : i = j
  · subst e
    have hi : i < xs.length := by have := (List.getElem?_eq_some_iff.1 hj).1; simpa using this
    rw [List.getElem?_set_self hi] at hj
    obtain rfl : k = x := by simpa using hj
    obtain ⟨y, hy⟩ := get_lt hi
    exact sc_same (h.cells i y hy)
  · rw [List.getElem?_set_ne e] at hj
    rw [sc_other (fun h => e (congrArg Addr.off h))]
    exact h.cells j x hj
theorem RowI.made (w : World) (n : Nat) : RowI (w.alloc (.cells (madeCells #[.int .i64 0] n) 3)) w.heap.size (List.replicate n 0) := by
  refine ⟨fun i x hi => ?_, fun i _ => World.frozen?_alloc_at _ _ _ _ rfl, by simp⟩
  have h1 : i < n := by have := (List.getElem?_eq_some_iff.1 hi).1; simpa using this
  obtain rfl : x = 0 := by
    have := (List.getElem?_eq_some_iff.1 hi).2; simp at this; exact this.symm
  rw [World.cell?_alloc_at _ _ _ _ rfl]
  simp [madeCells, h1, Nat.mod_one]
theorem RowI.ints {w : World} {g : Nat} {xs : List Int} (h : RowI w g xs) (hl : xs.length ≤ 9223372036854775807) : ∀ m, m < g → Ints w w.heap.size m (.slice (some ⟨g, 0, none⟩) xs.length xs.length) xs :=
  fun m hm => ⟨_, _, rfl, Nat.le_refl _, hl, fun _ => ⟨g, 0, rfl, h.lt, by omega, fun i x hi => by rw [Nat.zero_add]; exact h.cells i x hi⟩⟩

/-- 'make' of n numbers -/
theorem make_ints (n : Nat) (hn : n ≤ 1073741824) (u : World) : (Instr.makeSlice 39 (.int .i64 (n : Int)) (.int .i64 (n : Int))).run Tryd.prog u =
    .ok (.slice (some ⟨u.heap.size, 0, none⟩) n n) (u.alloc (.cells (madeCells #[.int .i64 0] n) 3)) := by
  obtain ⟨i0, hi, hz0, hz1, hz2⟩ := info_parts info3
  have h := run_make (P := Tryd.prog) u 39 3 i0 (.int .i64 0) Tryd.underlying39 hi hz0 .i64 .i64 (n : Int) (n : Int) (by omega) (Int.le_refl _) (by rw [hz2]; omega) (by omega)
  rw [Int.toNat_natCast] at h
  simpa [hz1, Value.cells] using h

/-- what Cells answers -/
def cellsR (l : List Col) (rs : List (List Int)) : List Int × Int := if wroE l rs = 0 then (celT l rs, 0) else ([], wroE l rs)
/-- numbers in new memory -/
def NewI (lo : Nat) (w : World) (v : Value) (xs : List Int) : Prop := ∀ m, m < lo → Ints w w.heap.size m v xs
def CellsP (xs : List Int) (er : Int) (w : World) (e : Ending) (w' : World) : Prop :=
  ∃ v', e = .returned (.tuple #[v', .int .i64 er]) ∧ NewI w.heap.size w' v' xs ∧ Below w.heap.size w w'
theorem newI_nil (lo : Nat) (w : World) : NewI lo w (.slice none 0 0) [] := fun m _ => ⟨none, 0, rfl, Nat.le_refl _, by simp, fun h => absurd rfl h⟩

theorem cadd_get {xs : List Int} {k : Nat} {x : Int} (h : xs[k]? = some x) : cadd xs k = xs.set k (x + 1) := by
  rw [cadd, List.getD, h]; rfl

set_option maxHeartbeats 1000000 in
theorem cells_any (B : Nat) (cv rv : Value) (l : List Col) (ts : List Rw) (w : World) (hB : B ≤ w.heap.size) (hp : Cols w B cv l) (hq : Rws w B rv ts) (xs : List Int) (er : Int) (hr : cellsR l (rr ts) = (xs, er)) :
    Calls Tryd.prog 12 #[.agg #[cv, rv]] w (CellsP xs er w) := by
  have HP : Hid (Cols w B cv l) := hp
  have HQ : Hid (Rws w B rv ts) := hq
  have HR : Hid (cellsR l (rr ts) = (xs, er)) := hr
  obtain ⟨a, c, rfl, hc, hl⟩ := hp.slice
  obtain ⟨a2, c2, rfl, hc2, hl2⟩ := hq.slice
  clear hr
  obtain ⟨ec, hec⟩ : ∃ ec, Hid (wroE l (rr ts) = ec) := ⟨_, rfl⟩
  have kc := wrong_any B _ _ l ts (w.alloc (.cells #[.slice a l.length c, .slice a2 ts.length c2] 25)) (by simp; omega) (HP.out.at hB (ba _ _)) (HQ.out.at hB (ba _ _)) ec hec.out
  have d0 : (w.alloc (.cells #[.slice a l.length c, .slice a2 ts.length c2] 25)).cell? ⟨w.heap.size, 0, none⟩ = some (.slice a l.length c) := nc _ _ 0 _ rfl rfl
  have d1 : (w.alloc (.cells #[.slice a l.length c, .slice a2 ts.length c2] 25)).cell? ⟨w.heap.size, 1, none⟩ = some (.slice a2 ts.length c2) := nc _ _ 1 _ rfl rfl
  go_enter Tryd.func12, Tryd.ntmps12
  go_wp2_with fail
  refine kc.mono ?_
  rintro e w1 ⟨rfl, hb1⟩
  have hbw : Below w.heap.size w w1 := bt (ba _ _) hb1
  have f0 : w1.cell? ⟨w.heap.size, 0, none⟩ = some (.slice a l.length c) := (hb1.cell (p := ⟨w.heap.size, 0, none⟩) (by simp)).trans d0
  have f1 : w1.cell? ⟨w.heap.size, 1, none⟩ = some (.slice a2 ts.length c2) := (hb1.cell (p := ⟨w.heap.size, 1, none⟩) (by simp)).trans d1
  have hz1 : w.heap.size < w1.heap.size := by have := hb1.size; simp at this; omega
  clear kc d0 d1 hb1
  by_cases he0 : ec = 0
  · subst he0
    have HW : Hid (colE l = 0 ∧ (rr ts).length ≤ 4096 ∧ ∀ r ∈ rr ts, RowOk l r) := wroE_ok hec.out
    have HC := colE_ok HW.out.1
    have HO : Hid (Szs l ∧ prd l ≤ 4096) := ⟨HC.2.2.1, HC.2.2.2.1⟩
    have hxs : celT l (rr ts) = xs ∧ 0 = er := by
      have := HR.out
      rw [cellsR, if_pos hec.out, Prod.mk.injEq] at this
      exact this
    obtain ⟨hxs, rfl⟩ := hxs
    have HX : Hid (celT l (rr ts) = xs) := hxs
    obtain ⟨n, hn⟩ : ∃ n, Hid (prd l = n) := ⟨_, rfl⟩
    have hn4 : n ≤ 4096 := by rw [← hn.out]; exact HO.out.2
    have kc := size_any B _ l w1 (by omega) (HP.out.at hB hbw) HO.out.1 n (by rw [hn.out]; omega)
    have hmk := make_ints n (by omega)
    have hts : ts.length ≤ 4096 := by have := HW.out.2.1; rwa [rr_len] at this
    clear hxs HC
    go_wp2_with fail
    refine kc.mono ?_
    rintro e w2 ⟨rfl, hb2⟩
    have hbw2 : Below w.heap.size w w2 := bt hbw hb2
    have g0 : w2.cell? ⟨w.heap.size, 0, none⟩ = some (.slice a l.length c) := (hb2.cell (p := ⟨w.heap.size, 0, none⟩) hz1).trans f0
    have g1 : w2.cell? ⟨w.heap.size, 1, none⟩ = some (.slice a2 ts.length c2) := (hb2.cell (p := ⟨w.heap.size, 1, none⟩) hz1).trans f1
    have hz2 : w.heap.size < w2.heap.size := by have := hb2.size; omega
    clear kc f0 f1 hb2 hbw hz1
    have e1 : (w2.alloc (.cells (madeCells #[.int .i64 0] n) 3)).cell? ⟨w.heap.size, 1, none⟩ = some (.slice a2 ts.length c2) := ((ba w2 _).cell (p := ⟨w.heap.size, 1, none⟩) hz2).trans g1
    go_wp2
    go_loopw [20] (fun s wr => ∃ (i : Nat), s = .int .i64 (i : Int) ∧ i ≤ ts.length ∧ Hid (RowI wr w2.heap.size (celT l ((rr ts).take i))) ∧ Below w2.heap.size w2 wr) (fun s _ => ts.length - (intOf s).toNat)
    case atStart => exact ⟨0, rfl, Nat.zero_le _, by show RowI _ _ _; rw [List.take_zero, celT_nil, hn.out]; exact RowI.made _ _, ba _ _⟩
    case round =>
      obtain ⟨i, rfl, hi, HI, hbl⟩ := hrel
      by_cases h1 : i < ts.length
      · have hbwr : Below w.heap.size w wr := bt hbw2 hbl
        obtain ⟨b, o, sa, sc, r, rfl, hb, hg, c1, hI⟩ := HQ.out.get hB hbwr h1
        have HII : Hid (Ints wr B B (.slice sa r.length sc) r) := hI
        have HRO : Hid (RowOk l r) := HW.out.2.2 _ (List.mem_of_getElem? (rr_get hg))
        have q0 : wr.cell? ⟨w.heap.size, 0, none⟩ = some (.slice a l.length c) := (hbl.cell (p := ⟨w.heap.size, 0, none⟩) hz2).trans g0
        have hzr := hbl.size
        obtain ⟨k0, hk0⟩ : ∃ k0, Hid (plc l r = k0) := ⟨_, rfl⟩
        have hkn : k0 < n := by rw [← hk0.out, ← hn.out]; exact plc_lt HRO.out
        have kc := place_any B B B _ _ l r wr (by omega) (HP.out.at hB hbwr) (by omega) HII.out HO.out.1 HO.out.2 HRO.out k0 hk0.out
        have HT : Hid (celT l ((rr ts).take (i + 1)) = cadd (celT l ((rr ts).take i)) k0) := by
          show _ = _
          rw [List.take_add_one, rr_get hg, Option.toList_some, celT_snoc HO.out.1 HRO.out, hk0.out]
        have hlen : Hid ((celT l ((rr ts).take i)).length = n) := by show _ = _; rw [celT_len, hn.out]
        obtain ⟨y, hy⟩ := get_lt (l := celT l ((rr ts).take i)) (i := k0) (by rw [hlen.out]; exact hkn)
        have hyb := celT_bd (List.mem_of_getElem? hy)
        have hyb2 : y ≤ 4096 := by
          have : ((rr ts).take i).length ≤ 4096 := by have := HW.out.2.1; rw [List.length_take]; omega
          omega
        have hyb1 := hyb.1
        clear hg hI hyb
        go_wp2_with fail
        refine kc.mono ?_
        rintro e w4 ⟨rfl, hb4⟩
        have hbl4 : Below w2.heap.size w2 w4 := bt hbl hb4
        have hR4 := HI.out.keep hb4 HI.out.lt
        have HR4 : Hid (RowI w4 w2.heap.size (celT l ((rr ts).take i))) := hR4
        have p1 := hR4.cells k0 y hy
        have p2 := hR4.thaw k0 (by rw [hlen.out]; exact hkn)
        have HY : Hid ((celT l ((rr ts).take i))[k0]? = some y) := hy
        have zk : (k0 : Int) < (n : Int) := by omega
        clear kc hb4 hR4 hy
        go_wp2
        go_roundw
        case rel =>
          refine ⟨i + 1, by go_num, h1, ?_, bs hbl4 (p := ⟨w2.heap.size, k0, none⟩) (Nat.le_refl _) _⟩
          show RowI _ _ _
          rw [HT.out, cadd_get HY.out]
          exact HR4.out.set k0 (y + 1)
        case measure => simp [intOf]; omega
      · have HF : Hid (RowI wr w2.heap.size xs) := by
          have := HI.out
          rwa [List.take_of_length_le (by rw [rr_len]; omega), HX.out] at this
        have hxl : xs.length = n := by rw [← HX.out, celT_len, hn.out]
        go_wp2
        go_ret2
        have := HF.out.ints (by omega)
        rw [hxl] at this
        exact ⟨_, rfl, fun m hm => this m (by omega), bt hbw2 hbl⟩
  · have hne : (ec != 0) = true := by simpa using he0
    have hxs : ([] : List Int) = xs ∧ ec = er := by
      have := HR.out
      rw [cellsR, hec.out, if_neg he0, Prod.mk.injEq] at this
      exact this
    obtain ⟨rfl, rfl⟩ := hxs
    go_wp2
    go_ret2
    exact ⟨_, rfl, newI_nil _ _, hbw⟩
end Go.Proofs.YtkpjjiomfgkobaaDoor
