import Derived.Test.YtlndlpjadajelaaGreatQa29
import Derived.OwnWalk
import Derived.Laws.MakeOwn
import Derived.Maps.AppendAt
import Derived.Laws.OwnMore
import Derived.Lib.SliceRun
namespace Go.Proofs.YtlndlpjadajelaaGreat.K
open Go.RowKit Go.Proofs.YtlndlpjadajelaaGreat.K.Ds

theorem info3 : (Tryz.prog.info? 3).map (fun i => (i.zero, i.size, i.bytes)) = some (some (.int .i64 0), 1, 8) := by kernel_rfl

/-- a row of numbers that may be written -/
structure RowI (w : World) (g : Nat) (xs : List Int) : Prop where
  cells : ∀ i x, xs[i]? = some x → w.cell? ⟨g, i, none⟩ = some (.int .i64 x)
  thaw : ∀ i, i < xs.length → w.frozen? ⟨g, i, none⟩ = false
  lt : g < w.heap.size
theorem RowI.keep {w w' : World} {g N : Nat} {xs : List Int} (h : RowI w g xs) (hb : Below N w w') (hg : g < N) : RowI w' g xs :=
  ⟨fun i x hi => (hb.cell (p := ⟨g, i, none⟩) hg).trans (h.cells i x hi), fun i hi => (hb.frozen (p := ⟨g, i, none⟩) hg).trans (h.thaw i hi), Nat.lt_of_lt_of_le h.lt hb.size⟩
theorem RowI.set {w : World} {g : Nat} {xs : List Int} (h : RowI w g xs) (i : Nat) (k : Int) : RowI (w.setCell ⟨g, i, none⟩ (.int .i64 k)) g (xs.set i k) := by
  refine ⟨fun j x hj => ?_, fun j hj => by rw [sc_frozen]; exact h.thaw j (by simpa using hj), by simpa using h.lt⟩
  by_cases e : i = j
  · subst e
    have hi : i < xs.length := by have := (List.getElem?_eq_some_iff.1 hj).1; simpa using this
    rw [List.getElem?_set_self hi] at hj
    obtain rfl : k = x := by simpa using hj
    obtain ⟨y, hy⟩ := get_lt hi
    exact sc_same (h.cells i y hy)
  · rw [List.getElem?_set_ne e] at hj
    rw [sc_other (fun h => e (congrArg Addr.off h))]
    exact h.cells j x hj
theorem RowI.made (w : World) (n : Nat) : RowI (w.alloc (.cells (madeCells #[.int .i64 0] n) 3)) w.heap.size (List.replicate n 0) := by
  refine ⟨fun i x hi => ?_, fun i _ => World.frozen?_alloc_at _ _ _ _ rfl, by simp⟩
  have h1 : i < n := by have := (List.getElem?_eq_some_iff.1 hi).1; simpa using this
  obtain rfl : x = 0 := by
    have := (List.getElem?_eq_some_iff.1 hi).2; simp at this; exact this.symm
  rw [World.cell?_alloc_at _ _ _ _ rfl]
  simp [madeCells, h1, Nat.mod_one]
theorem RowI.ints {w : World} {g : Nat} {xs : List Int} (h : RowI w g xs) (hl : xs.length ≤ 9223372036854775807) : ∀ m, m < g → Ints w w.heap.size m (.slice (some ⟨g, 0, none⟩) xs.length xs.length) xs :=
  fun m hm => ⟨_, _, rfl, Nat.le_refl _, hl, fun _ => ⟨g, 0, rfl, h.lt, by omega, fun i x hi => by rw [Nat.zero_add]; exact h.cells i x hi⟩⟩

/-- 'make' of n numbers -/
theorem make_ints (n : Nat) (hn : n ≤ 1073741824) (u : World) : (Instr.makeSlice 65 (.int .i64 (n : Int)) (.int .i64 (n : Int))).run Tryz.prog u =
    .ok (.slice (some ⟨u.heap.size, 0, none⟩) n n) (u.alloc (.cells (madeCells #[.int .i64 0] n) 3)) := by
  obtain ⟨i0, hi, hz0, hz1, hz2⟩ := info_parts info3
  have h := run_make (P := Tryz.prog) u 65 3 i0 (.int .i64 0) Tryz.underlying65 hi hz0 .i64 .i64 (n : Int) (n : Int) (by omega) (Int.le_refl _) (by rw [hz2]; omega) (by omega)
  rw [Int.toNat_natCast] at h
  simpa [hz1, Value.cells] using h

/-- what Cells answers -/
def cellsR (l : List Col) (rs : List (List Int)) : List Int × Int := if wroE l rs = 0 then (celT l rs, 0) else ([], wroE l rs)
/-- numbers in new memory -/
def NewI (lo : Nat) (w : World) (v : Value) (xs : List Int) : Prop := ∀ m, m < lo → Ints w w.heap.size m v xs
def CellsP (xs : List Int) (er : Int) (w : World) (e : Ending) (w' : World) : Prop :=
  ∃ v', e = .returned (.tuple #[v', .int .i64 er]) ∧ NewI w.heap.size w' v' xs ∧ Below w.heap.size w w'
theorem newI_nil (lo : Nat) (w : World) : NewI lo w (.slice none 0 0) [] := fun m _ => ⟨none, 0, rfl, Nat.le_refl _, by simp, fun h => absurd rfl h⟩

theorem cadd_get {xs : List Int} {k : Nat} {x : Int} (h : xs[k]? = some x) : cadd xs k = xs.set k (x + 1) := by
  rw [cadd, List.getD, h]; rfl

set_option maxHeartbeats 1000000 in
theorem cells_any (B : Nat) (cv rv : Value) (l : List Col) (ts : List Rw) (w : World) (hB : B ≤ w.heap.size) (hp : Cols w B cv l) (hq : Rws w B rv ts) (xs : List Int) (er : Int) (hr : cellsR l (rr ts) = (xs, er)) :
    Calls Tryz.prog 35 #[.agg #[cv, rv]] w (CellsP xs er w) := by
  have HP : Hid (Cols w B cv l) := hp
  have HQ : Hid (Rws w B rv ts) := hq
  have HR : Hid (cellsR l (rr ts) = (xs, er)) := hr
  obtain ⟨a, c, rfl, hc, hl⟩ := hp.slice
  obtain ⟨a2, c2, rfl, hc2, hl2⟩ := hq.slice
  clear hr
  obtain ⟨ec, hec⟩ : ∃ ec, Hid (wroE l (rr ts) = ec) := ⟨_, rfl⟩
  have kc := wrong_any B _ _ l ts (w.alloc (.cells #[.slice a l.length c, .slice a2 ts.length c2] 27)) (by simp; omega) (HP.out.at hB (ba _ _)) (HQ.out.at hB (ba _ _)) ec hec.out
  have d0 : (w.alloc (.cells #[.slice a l.length c, .slice a2 ts.length c2] 27)).cell? ⟨w.heap.size, 0, none⟩ = some (.slice a l.length c) := nc _ _ 0 _ rfl rfl
  have d1 : (w.alloc (.cells #[.slice a l.length c, .slice a2 ts.length c2] 27)).cell? ⟨w.heap.size, 1, none⟩ = some (.slice a2 ts.length c2) := nc _ _ 1 _ rfl rfl
  go_enter Tryz.func35, Tryz.ntmps35
  go_wp2_with fail
  refine kc.mono ?_
  rintro e w1 ⟨rfl, hb1⟩
  have hbw : Below w.heap.size w w1 := bt (ba _ _) hb1
  have f0 : w1.cell? ⟨w.heap.size, 0, none⟩ = some (.slice a l.length c) := (hb1.cell (p := ⟨w.heap.size, 0, none⟩) (by simp)).trans d0
  have f1 : w1.cell? ⟨w.heap.size, 1, none⟩ = some (.slice a2 ts.length c2) := (hb1.cell (p := ⟨w.heap.size, 1, none⟩) (by simp)).trans d1
  have hz1 : w.heap.size < w1.heap.size := by have := hb1.size; simp at this; omega
  clear kc d0 d1 hb1
  by_cases he0 : ec = 0
  · subst he0
    have HW : Hid (colE l = 0 ∧ (rr ts).length ≤ 4096 ∧ ∀ r ∈ rr ts, RowOk l r) := wroE_ok hec.out
    have HC := colE_ok HW.out.1
    have HO : Hid (Szs l ∧ prd l ≤ 4096) := ⟨HC.2.2.1, HC.2.2.2.1⟩
    have hxs : celT l (rr ts) = xs ∧ 0 = er := by
      have := HR.out
      rw [cellsR, if_pos hec.out, Prod.mk.injEq] at this
      exact this
    obtain ⟨hxs, rfl⟩ := hxs
    have HX : Hid (celT l (rr ts) = xs) := hxs
    obtain ⟨n, hn⟩ : ∃ n, Hid (prd l = n) := ⟨_, rfl⟩
    have hn4 : n ≤ 4096 := by rw [← hn.out]; exact HO.out.2
    have kc := size_any B _ l w1 (by omega) (HP.out.at hB hbw) HO.out.1 n (by rw [hn.out]; omega)
    have hmk := make_ints n (by omega)
    have hts : ts.length ≤ 4096 := by have := HW.out.2.1; rwa [rr_len] at this
    clear hxs HC
    go_wp2_with fail
    refine kc.mono ?_
    rintro e w2 ⟨rfl, hb2⟩
    have hbw2 : Below w.heap.size w w2 := bt hbw hb2
    have g0 : w2.cell? ⟨w.heap.size, 0, none⟩ = some (.slice a l.length c) := (hb2.cell (p := ⟨w.heap.size, 0, none⟩) hz1).trans f0
    have g1 : w2.cell? ⟨w.heap.size, 1, none⟩ = some (.slice a2 ts.length c2) := (hb2.cell (p := ⟨w.heap.size, 1, none⟩) hz1).trans f1
    have hz2 : w.heap.size < w2.heap.size := by have := hb2.size; omega
    clear kc f0 f1 hb2 hbw hz1
    have e1 : (w2.alloc (.cells (madeCells #[.int .i64 0] n) 3)).cell? ⟨w.heap.size, 1, none⟩ = some (.slice a2 ts.length c2) := ((ba w2 _).cell (p := ⟨w.heap.size, 1, none⟩) hz2).trans g1
    go_wp2
    go_loopw [20] (fun s wr => ∃ (i : Nat), s = .int .i64 (i : Int) ∧ i ≤ ts.length ∧ Hid (RowI wr w2.heap.size (celT l ((rr ts).take i))) ∧ Below w2.heap.size w2 wr) (fun s _ => ts.length - (intOf s).toNat)
    case atStart => exact ⟨0, rfl, Nat.zero_le _, by show RowI _ _ _; rw [List.take_zero, celT_nil, hn.out]; exact RowI.made _ _, ba _ _⟩
    case round =>
      obtain ⟨i, rfl, hi, HI, hbl⟩ := hrel
      by_cases h1 : i < ts.length
      · have hbwr : Below w.heap.size w wr := bt hbw2 hbl
        obtain ⟨b, o, sa, sc, r, rfl, hb, hg, c1, hI⟩ := HQ.out.get hB hbwr h1
        have HII : Hid (Ints wr B B (.slice sa r.length sc) r) := hI
        have HRO : Hid (RowOk l r) := HW.out.2.2 _ (List.mem_of_getElem? (rr_get hg))
        have q0 : wr.cell? ⟨w.heap.size, 0, none⟩ = some (.slice a l.length c) := (hbl.cell (p := ⟨w.heap.size, 0, none⟩) hz2).trans g0
        have hzr := hbl.size
        obtain ⟨k0, hk0⟩ : ∃ k0, Hid (plc l r = k0) := ⟨_, rfl⟩
        have hkn : k0 < n := by rw [← hk0.out, ← hn.out]; exact plc_lt HRO.out
        have kc := place_any B B B _ _ l r wr (by omega) (HP.out.at hB hbwr) (by omega) HII.out HO.out.1 HO.out.2 HRO.out k0 hk0.out
        have HT : Hid (celT l ((rr ts).take (i + 1)) = cadd (celT l ((rr ts).take i)) k0) := by
          show _ = _
          rw [List.take_add_one, rr_get hg, Option.toList_some, celT_snoc HO.out.1 HRO.out, hk0.out]
        have hlen : Hid ((celT l ((rr ts).take i)).length = n) := by show _ = _; rw [celT_len, hn.out]
        obtain ⟨y, hy⟩ := get_lt (l := celT l ((rr ts).take i)) (i := k0) (by rw [hlen.out]; exact hkn)
        have hyb := celT_bd (List.mem_of_getElem? hy)
        have hyb2 : y ≤ 4096 := by
          have : ((rr ts).take i).length ≤ 4096 := by have := HW.out.2.1; rw [List.length_take]; omega
          omega
        have hyb1 := hyb.1
        clear hg hI hyb
        go_wp2_with fail
        refine kc.mono ?_
        rintro e w4 ⟨rfl, hb4⟩
        have hbl4 : Below w2.heap.size w2 w4 := bt hbl hb4
        have hR4 := HI.out.keep hb4 HI.out.lt
        have HR4 : Hid (RowI w4 w2.heap.size (celT l ((rr ts).take i))) := hR4
        have p1 := hR4.cells k0 y hy
        have p2 := hR4.thaw k0 (by rw [hlen.out]; exact hkn)
        have HY : Hid ((celT l ((rr ts).take i))[k0]? = some y) := hy
        have zk : (k0 : Int) < (n : Int) := by omega
        clear kc hb4 hR4 hy
        go_wp2
        go_roundw
        case rel =>
          refine ⟨i + 1, by go_num, h1, ?_, bs hbl4 (p := ⟨w2.heap.size, k0, none⟩) (Nat.le_refl _) _⟩
          show RowI _ _ _
          rw [HT.out, cadd_get HY.out]
          exact HR4.out.set k0 (y + 1)
        case measure => simp [intOf]; omega
      · have HF : Hid (RowI wr w2.heap.size xs) := by
          have := HI.out
          rwa [List.take_of_length_le (by rw [rr_len]; omega), HX.out] at this
        have hxl : xs.length = n := by rw [← HX.out, celT_len, hn.out]
        go_wp2
        go_ret2
        have := HF.out.ints (by omega)
        rw [hxl] at this
        exact ⟨_, rfl, fun m hm => this m (by omega), bt hbw2 hbl⟩
  · have hne : (ec != 0) = true := by simpa using he0
    have hxs : ([] : List Int) = xs ∧ ec = er := by
      have := HR.out
      rw [cellsR, hec.out, if_neg he0, Prod.mk.injEq] at this
      exact this
    obtain ⟨rfl, rfl⟩ := hxs
    go_wp2
    go_ret2
    exact ⟨_, rfl, newI_nil _ _, hbw⟩
end Go.Proofs.YtlndlpjadajelaaGreat.K

namespace Go.Proofs.YtlndlpjadajelaaGreat.K
open Go.RowKit Go.Proofs.YtlndlpjadajelaaGreat.K.Ds

theorem frozen_zero {w : World} {g j : Nat} {cur : Array Value} {e : TypeId} (h : w.heap[g]? = some (.cells cur e (0, 0))) : w.frozen? ⟨g, j, none⟩ = false := by
  simp [World.frozen?, h]
theorem owns_below {w w' : World} {base : Nat} {e : TypeId} {size : Nat} {v : Value} {n : Nat} {xs : List Value} (h : w.ownsRow base e size v n xs) (hb : Below w.heap.size w w') : w'.ownsRow base e size v n xs := by
  obtain ⟨h1, h2⟩ := h
  refine ⟨h1, ?_⟩
  rcases h2 with h2 | ⟨g, cap, cur, hv, hg, hcur, h3⟩
  · exact .inl h2
  · exact .inr ⟨g, cap, cur, hv, hg, by rw [hb.block g (Array.getElem?_eq_some_iff.1 hcur).1]; exact hcur, h3⟩
theorem owns_block {w : World} {base : Nat} {e : TypeId} {size : Nat} {v : Value} {n : Nat} {xs : List Value} (h : w.ownsRow base e size v n xs) : ∀ k, v.ownBlock = some k → base ≤ k := by
  intro k hk
  obtain ⟨_, ⟨rfl, _⟩ | ⟨g, cap, cur, rfl, hg, _⟩⟩ := h
  · simp [Value.ownBlock] at hk
  · simp [Value.ownBlock] at hk; omega
theorem owns_slice {w : World} {base : Nat} {e : TypeId} {size : Nat} {v : Value} {n : Nat} {xs : List Value} (h : w.ownsRow base e size v n xs) : ∃ a c, v = .slice a n c := by
  obtain ⟨_, ⟨rfl, rfl⟩ | ⟨g, cap, cur, rfl, _⟩⟩ := h
  · exact ⟨_, _, rfl⟩
  · exact ⟨_, _, rfl⟩
theorem owns_some {w : World} {base : Nat} {e : TypeId} {size : Nat} {v : Value} {n : Nat} {xs : List Value} (h : w.ownsRow base e size v n xs) (hne : v ≠ .slice none 0 0) : ∃ g c, v = .slice (some ⟨g, 0, none⟩) n c ∧ base ≤ g ∧ g < w.heap.size := by
  obtain ⟨_, ⟨rfl, rfl⟩ | ⟨g, cap, cur, rfl, hb, hcur, _⟩⟩ := h
  · exact absurd rfl hne
  · exact ⟨g, cap, rfl, hb, (Array.getElem?_eq_some_iff.1 hcur).1⟩
theorem ints_of_owns {w : World} {base nb : Nat} {v : Value} {xs : List Int} {n : Nat} (hn : n = xs.length) (hl : xs.length ≤ 9223372036854775807) (h : w.ownsRow base 3 1 v n (xs.map (.int .i64))) (hnb : nb < base) : Ints w w.heap.size nb v xs := by
  subst hn
  obtain ⟨_, ⟨hv, h0⟩ | ⟨g, cap, cur, hv, hb, hcur, hc, _, hsz, hx⟩⟩ := h
  · obtain rfl : xs = [] := by cases xs <;> simp_all
    exact ⟨none, 0, hv, Nat.le_refl _, hl, fun h => absurd rfl h⟩
  · refine ⟨_, cap, hv, hc, hl, fun _ => ⟨g, 0, rfl, (Array.getElem?_eq_some_iff.1 hcur).1, by omega, fun i x hi => ?_⟩⟩
    have hi2 : i < xs.length := (List.getElem?_eq_some_iff.1 hi).1
    have : cur[i]? = some (.int .i64 x) := by
      have h1 : (xs.map (Value.int .i64))[i]? = some (.int .i64 x) := by simp [hi]
      rw [← hx, List.getElem?_take_of_lt (by omega)] at h1
      simpa using h1
    simp [World.cell?, hcur, this]
theorem own_or2 {v : Value} {lo n : Nat} (h : ∀ g, v.ownBlock = some g → lo ≤ g ∧ g < n) (hn : lo < n) : ∃ m, lo ≤ m ∧ m < n ∧ ∀ g, v.ownBlock = some g → m = g := by
  cases e : v.ownBlock with
  | none => exact ⟨lo, Nat.le_refl _, hn, fun g e => by cases e⟩
  | some g => exact ⟨g, (h g e).1, (h g e).2, fun g' e => by simpa using e⟩

theorem info26 : (Tryz.prog.info? 65).map (fun i => (i.zero, i.size, i.bytes)) = some (some (.slice none 0 0), 1, 24) := by kernel_rfl
theorem info47 : (Tryz.prog.info? 74).map (fun i => (i.zero, i.size, i.bytes)) = some (some (.agg #[.string ByteArray.empty, .int .i64 0]), 2, 24) := by kernel_rfl
theorem info25 : (Tryz.prog.info? 27).map (fun i => (i.zero, i.size, i.bytes)) = some (some (.agg #[.slice none 0 0, .slice none 0 0]), 2, 48) := by kernel_rfl

/-- ROWS OF ONE's OWN THAT GROW: the numbers of each lie outside of the block that grows -/
def Rwr (w : World) (lo : Nat) (v : Value) (ts : List Rw) : Prop :=
  w.ownsRow lo 65 1 v ts.length (ts.map (·.1)) ∧ ∀ t ∈ ts, ∃ m, Ints w w.heap.size m t.1 t.2 ∧ ∀ g, v.ownBlock = some g → m = g
theorem Rwr.nil (w : World) (lo : Nat) : Rwr w lo (.slice none 0 0) [] := ⟨⟨rfl, .inl ⟨rfl, rfl⟩⟩, fun t ht => by cases ht⟩
theorem Rwr.keep {w w' : World} {lo : Nat} {v : Value} {ts : List Rw} (h : Rwr w lo v ts) (hb : Below w.heap.size w w') : Rwr w' lo v ts :=
  ⟨owns_below h.1 hb, fun t ht => let ⟨m, h1, h2⟩ := h.2 t ht; ⟨m, h1.at2 hb, h2⟩⟩
theorem Rwr.mono {w : World} {lo lo' : Nat} {v : Value} {ts : List Rw} (h : Rwr w lo v ts) (hl : lo' ≤ lo) : Rwr w lo' v ts := by
  refine ⟨?_, h.2⟩
  obtain ⟨h1, h2 | ⟨g, cap, cur, hv, hg, h3⟩⟩ := h.1
  · exact ⟨h1, .inl h2⟩
  · exact ⟨h1, .inr ⟨g, cap, cur, hv, by omega, h3⟩⟩
theorem Rwr.slice {w : World} {lo : Nat} {v : Value} {ts : List Rw} (h : Rwr w lo v ts) : ∃ a c, v = .slice a ts.length c := owns_slice h.1
theorem Rwr.lt {w : World} {lo : Nat} {v : Value} {ts : List Rw} (h : Rwr w lo v ts) : ∀ g, v.ownBlock = some g → lo ≤ g ∧ g < w.heap.size := h.1.lt
theorem Ints.grow {W w' : World} {B m m' : Nat} {s : Value} {xs : List Int} {row : Option Nat} (h : Ints W B m s xs) (hg : W.grownBy w' row) (hB : B ≤ W.heap.size) (hrow : ∀ g, row = some g → m = g) (hm : m' = m ∨ B ≤ m') : Ints w' w'.heap.size m' s xs := by
  obtain ⟨a, c, hv, hc, hl, hx⟩ := h
  refine ⟨a, c, hv, hc, hl, fun hne => ?_⟩
  obtain ⟨b, o, ha, hb, hn, hcell⟩ := hx hne
  have := hg.size
  refine ⟨b, o, ha, by omega, by rcases hm with h | h <;> omega, fun i x hi => ?_⟩
  refine hg.cell (hcell i x hi) fun e => hn ?_
  exact (hrow b e.symm).symm
theorem Rwr.app {W w' : World} {lo : Nat} {v v' s : Value} {ts : List Rw} {xs : List Int} {m : Nat} (h : Rwr W lo v ts) (hown : w'.ownsRow lo 65 1 v' (ts.length + 1) (ts.map (·.1) ++ [s])) (hg : W.grownBy w' v.ownBlock)
    (hat : v'.ownBlock = v.ownBlock ∨ v'.ownBlock = some W.heap.size) (hi : Ints W W.heap.size m s xs) (hm : ∀ g, v.ownBlock = some g → m = g) : Rwr w' lo v' (ts ++ [(s, xs)]) := by
  refine ⟨by simpa using hown, fun t ht => ?_⟩
  have key : ∀ (m : Nat) (s : Value) (xs : List Int), Ints W W.heap.size m s xs → (∀ g, v.ownBlock = some g → m = g) → ∃ m', Ints w' w'.heap.size m' s xs ∧ ∀ g, v'.ownBlock = some g → m' = g := by
    intro m s xs h1 h2
    rcases hat with hat | hat
    · exact ⟨m, h1.grow hg (Nat.le_refl _) h2 (.inl rfl), by rw [hat]; exact h2⟩
    · exact ⟨W.heap.size, h1.grow hg (Nat.le_refl _) h2 (.inr (Nat.le_refl _)), by rw [hat]; intro g e; simpa using e⟩
  rcases List.mem_append.1 ht with ht | ht
  · obtain ⟨m, h1, h2⟩ := h.2 t ht
    exact key m t.1 t.2 h1 h2
  · obtain rfl : t = (s, xs) := by simpa using ht
    exact key m s xs hi hm
theorem rws_nil (w : World) (B : Nat) : Rws w B (.slice none 0 0) [] := ⟨none, 0, rfl, Nat.le_refl _, by simp, by simp, fun h => absurd rfl h⟩
theorem Rwr.rws {w : World} {lo : Nat} {v : Value} {ts : List Rw} (h : Rwr w lo v ts) (hl : ts.length ≤ 9223372036854775807) : Rws w w.heap.size v ts := by
  have hi : ∀ t ∈ ts, Ints w w.heap.size w.heap.size t.1 t.2 := fun t ht => let ⟨m, h1, _⟩ := h.2 t ht; h1.mono (Nat.le_refl _) (.inr (Nat.le_refl _))
  obtain ⟨_, ⟨hv, h0⟩ | ⟨g, cap, cur, hv, hb, hcur, hc, _, hsz, hx⟩⟩ := h.1
  · obtain rfl : ts = [] := List.length_eq_zero_iff.1 h0
    subst hv
    exact rws_nil w _
  · refine ⟨_, cap, hv, hc, hl, hi, fun _ => ⟨g, 0, rfl, (Array.getElem?_eq_some_iff.1 hcur).1, fun i t ht => ?_⟩⟩
    have hi2 : i < ts.length := (List.getElem?_eq_some_iff.1 ht).1
    have : cur[i]? = some t.1 := by
      have h1 : (ts.map (·.1))[i]? = some t.1 := by simp [ht]
      rw [← hx, List.getElem?_take_of_lt (by omega)] at h1
      simpa using h1
    simp [World.cell?, hcur, this]
/-- each row's value has a place, from lo on -/
def Som (lo : Nat) (ts : List Rw) : Prop := ∀ t ∈ ts, ∃ b o n c, t.1 = .slice (some ⟨b, o, none⟩) n c ∧ lo ≤ b
theorem Som.nil (lo : Nat) : Som lo [] := fun t ht => by cases ht
theorem Som.snoc {lo : Nat} {ts : List Rw} {b o n c : Nat} {xs : List Int} (h : Som lo ts) (hb : lo ≤ b) : Som lo (ts ++ [(.slice (some ⟨b, o, none⟩) n c, xs)]) := by
  intro t ht
  rcases List.mem_append.1 ht with ht | ht
  · exact h t ht
  · obtain rfl := List.mem_singleton.1 ht; exact ⟨b, o, n, c, rfl, hb⟩
theorem Som.add {lo : Nat} {ts : List Rw} {t : Rw} (h : Som lo ts) (hb : ∃ b o n c, t.1 = .slice (some ⟨b, o, none⟩) n c ∧ lo ≤ b) : Som lo (ts ++ [t]) := by
  intro u ht
  rcases List.mem_append.1 ht with ht | ht
  · exact h u ht
  · obtain rfl := List.mem_singleton.1 ht; exact hb
theorem Som.mono {lo lo' : Nat} {ts : List Rw} (h : Som lo ts) (hl : lo' ≤ lo) : Som lo' ts := fun t ht => let ⟨b, o, n, c, e, hb⟩ := h t ht; ⟨b, o, n, c, e, Nat.le_trans hl hb⟩
/-- so its numbers lie nowhere below lo -/
theorem Ints.not {w : World} {B nb m lo : Nat} {v : Value} {xs : List Int} (h : Ints w B nb v xs) (hs : ∃ b o n c, v = .slice (some ⟨b, o, none⟩) n c ∧ lo ≤ b) (hm : m < lo) : Ints w B m v xs := by
  obtain ⟨a, c, hv, hc, hl, hx⟩ := h
  obtain ⟨b, o, n, c2, hv2, hb⟩ := hs
  refine ⟨a, c, hv, hc, hl, fun hne => ?_⟩
  obtain ⟨b', o', ha, hB, _, hcell⟩ := hx hne
  refine ⟨b', o', ha, hB, ?_, hcell⟩
  rw [hv, ha] at hv2
  simp only [Value.slice.injEq, Option.some.injEq, Addr.mk.injEq] at hv2
  have := hv2.1.1
  omega

/-- the cells of columns -/
def flatC (l : List Col) : List Value := l.flatMap fun c => [.string c.1, .int .i64 c.2]
theorem flatC_len (l : List Col) : (flatC l).length = l.length * 2 := by
  induction l with
  | nil => rfl
  | cons t l ih => simp [flatC] at *; omega
theorem flatC_get (l : List Col) (i : Nat) : (flatC l)[i * 2]? = l[i]?.map (fun c => .string c.1) ∧ (flatC l)[i * 2 + 1]? = l[i]?.map fun c => .int .i64 c.2 := by
  induction l generalizing i with
  | nil => simp [flatC]
  | cons t l ih =>
    cases i with
    | zero => simp [flatC]
    | succ i =>
      have h := ih i
      have e : flatC (t :: l) = .string t.1 :: .int .i64 t.2 :: flatC l := rfl
      rw [e, show (i + 1) * 2 = i * 2 + 1 + 1 by omega, show i * 2 + 1 + 1 + 1 = (i * 2 + 1) + 1 + 1 by omega]
      simpa using h
theorem flatC_cells {w : World} {b o : Nat} {l : List Col} (h : ∀ i x, l[i]? = some x → w.cell? ⟨b, o + i * 2, none⟩ = some (.string x.1) ∧ w.cell? ⟨b, o + i * 2 + 1, none⟩ = some (.int .i64 x.2)) : ∀ j u, (flatC l)[j]? = some u → w.cell? ⟨b, o + j, none⟩ = some u := by
  intro j u hj
  have hlt : j < l.length * 2 := by rw [← flatC_len]; exact (List.getElem?_eq_some_iff.1 hj).1
  obtain ⟨t, ht⟩ := get_lt (l := l) (i := j / 2) (by omega)
  have hg := flatC_get l (j / 2)
  rcases Nat.mod_two_eq_zero_or_one j with hm | hm
  · have e : j = j / 2 * 2 := by omega
    rw [e] at hj ⊢
    rw [hg.1, ht] at hj
    rw [(h _ t ht).1]; simpa using hj
  · have e : j = j / 2 * 2 + 1 := by omega
    rw [e] at hj ⊢
    rw [hg.2, ht] at hj
    rw [← Nat.add_assoc, (h _ t ht).2]; simpa using hj

end Go.Proofs.YtlndlpjadajelaaGreat.K
