import Derived.Test.YthmkbkombjhaeaaQw30
import Derived.Test.YthmkbkombjhaeaaQw22
import Derived.Test.YthmkbkombjhaeaaQw26
import Derived.Test.YthmkbkombjhaeaaQw23
import Derived.Deep.RegionHeld3
namespace Go.Proofs.Ythmkbkombjhaeaa
open Go.RowKit Go.Proofs.Ythmkbkombjhaeaa.Ds

theorem cpowI_any (x n : Int) (W : World) (h0 : 0 ≤ n) (hn : n ≤ 64) (hx : 1 ≤ x) (h : x ≤ 1073741824) :
    Calls Try.prog 25 #[.int .i64 x, .int .i64 n] W fun e w' => e = .returned (.int .i64 (lim (x ^ n.toNat))) ∧ Below W.heap.size W w' := by
  have := cpow_any x n.toNat (by omega) hx h _ rfl W
  rw [Int.toNat_of_nonneg h0] at this
  exact this
theorem cell_sa {w5 : World} {b b' i o : Nat} {v x : Value} (O : Obj) (h : w5.cell? ⟨b, o, none⟩ = some x) (hne : ¬ b' = b) (hl : b < w5.heap.size) : ((w5.setCell ⟨b', i, none⟩ v).alloc O).cell? ⟨b, o, none⟩ = some x := by
  have hl2 : b < (w5.setCell ⟨b', i, none⟩ v).heap.size := by simpa using hl
  rw [World.cell?_alloc_lt _ _ _ hl2, sc_other (fun e => hne (congrArg Addr.block e))]
  exact h
/-- a distribution that is answered, in memory of its own -/
def AnsD (w : World) (k : List Pt) (er : Int) (e : Ending) (w' : World) : Prop :=
  ∃ v' us, e = .returned (.tuple #[v', .int .i64 er]) ∧ rd us = k ∧ OwnN w' w.heap.size v' us ∧ Below w.heap.size w w' ∧ Frs w.heap.size us
theorem ansNo {w w' : World} {er : Int} (h : Below w.heap.size w w') : AnsD w [] er (.returned (.tuple #[.slice none 0 0, .int .i64 er])) w' :=
  ⟨_, [], rfl, rfl, .inl ⟨rfl, rfl⟩, h, Frs.nil _⟩
theorem numP_numL (n : Nat) (g : Nat → Int) : numP ((List.range n).map g) = numL n g := by
  unfold numP numL
  rw [List.length_map, List.length_range]
  refine List.map_congr_left fun i hi => ?_
  simp [List.getD, List.mem_range.1 hi]

set_option maxHeartbeats 4000000 in
set_option maxRecDepth 100000 in
theorem weigh_any (B : Nat) (u d : Int) (v : Value) (l : List Int) (w : World) (h : Num w B v l) (hB : B ≤ w.heap.size) (k : List Pt) (er : Int) (hr : weighT u d l = (k, er)) :
    Calls Try.prog 7 #[rv u d, v] w fun e w' => AnsD w k er e w' := by
  have HN : Hid (Num w B v l) := h
  have HR : Hid (weighT u d l = (k, er)) := hr
  obtain ⟨e0, he0⟩ : ∃ e0, choE u d l = e0 := ⟨_, rfl⟩
  have HE0 : Hid (choE u d l = e0) := he0
  have km := fun W h2 hB2 => measured_any B u d v l W h2 hB2 e0 he0
  obtain ⟨a, c, rfl, hc, hl, _⟩ := h
  clear hr he0
  by_cases c0 : e0 = 0
  · subst c0
    obtain ⟨hright, hdu, hd1, l1, l8, hnum, h64⟩ := cho_ok HE0.out
    have hu2 := (Rt.right_bd hright).2
    have hu1 : 1 ≤ u := by omega
    obtain ⟨s, hs⟩ : ∃ s, belT l = s := ⟨_, rfl⟩
    have hsl : s.length = l.length := by rw [← hs, bel_len]
    have hfar : farI l = asI s := by rw [← hs]; exact farI_as l
    have hs64 : ∀ i, i < l.length → s.getD i 0 ≤ 64 := by
      intro i hi
      have h1 := bel_get hi
      rw [hs] at h1
      have h2 := h64 (l.getD i 0) (by simp [List.getD, List.getElem?_eq_getElem hi])
      omega
    have HW64 : Hid (mxN s ≤ 64) := by
      have h1 := farI_max l1
      have hne : farI l ≠ [] := by intro e; have := congrArg List.length e; rw [farI_len] at this; simp at this; simp [this] at l1
      have h2 := (mxI_iff hne 64).2 (by
        intro n hn
        obtain ⟨m, hm, rfl⟩ := List.mem_map.1 hn
        exact h64 m hm)
      rw [h1, hs] at h2
      show _ ≤ _
      omega
    have HS : Hid (belT l = s) := hs
    have HSl : Hid (s.length = l.length) := hsl
    have HFar : Hid (farI l = asI s) := hfar
    have HS64 : Hid (∀ i, i < l.length → s.getD i 0 ≤ 64) := hs64
    have HWst : Hid (mxI (farI l) = ((mxN s : Nat) : Int)) := by rw [← hs]; exact farI_max l1
    clear hs hsl hfar hs64 hright hnum h64
    go_enter Try.func7, Try.ntmps7
    go_wp2_with fail
    refine (km _ (HN.out.at hB (ba _ _)) (by simp; omega)).mono ?_
    rintro e w1 ⟨hP, hb1⟩
    clear km
    rcases hP with ⟨h, _⟩ | ⟨_, g, rfl, hg, hrow⟩
    · exact absurd rfl h
    have G1 := bt (ba _ _) hb1
    have HRow1 : Hid (RowI w1 g (farI l)) := hrow
    have glt := hrow.lt
    have hfl : (farI l).length = l.length := farI_len l
    have hgn : w.heap.size < w1.heap.size := by have := hb1.size; simp at this; omega
    have HNf : Hid (∀ W, Below w1.heap.size w1 W → Num W W.heap.size (.slice (some ⟨g, 0, none⟩) l.length l.length) (farI l)) := by
      intro W hb
      have := (hrow.keep hb glt).num (by omega) (B := W.heap.size) (by have := hb.size; omega)
      rw [hfl] at this
      exact this
    have hmk := fun W => make_ints l.length (by omega) W
    obtain ⟨Wn, hWn⟩ : ∃ Wn, mxN s = Wn := ⟨_, rfl⟩
    have HWn : Hid (mxN s = Wn) := hWn
    have wn64 : Wn ≤ 64 := hWn ▸ HW64.out
    have HWst2 : Hid (mxI (farI l) = ((Wn : Nat) : Int)) := hWn ▸ HWst.out
    clear hb1 hg hrow hfl hWn HWst
    go_wp2_with fail
    refine (max_any _ _ (farI l) _ (HNf.out _ (ba _ _)) (by rw [farI_len]; exact l1) _ HWst2.out).mono ?_
    rintro e w3 ⟨rfl, rfl⟩
    obtain ⟨wb, hwb⟩ : ∃ wb, w1.alloc (.cells #[.int .i64 u, .int .i64 d, .slice (some ⟨g, 0, none⟩) l.length l.length] 47) = wb := ⟨_, rfl⟩
    have HBb : Hid (Below w1.heap.size w1 wb) := hwb ▸ ba _ _
    have k0 : wb.cell? ⟨w1.heap.size, 0, none⟩ = some (.int .i64 u) := by rw [← hwb]; simp [go_sem]
    have k1 : wb.cell? ⟨w1.heap.size, 1, none⟩ = some (.int .i64 d) := by rw [← hwb]; simp [go_sem]
    have k2 : wb.cell? ⟨w1.heap.size, 2, none⟩ = some (.slice (some ⟨g, 0, none⟩) l.length l.length) := by rw [← hwb]; simp [go_sem]
    have klt : w1.heap.size < wb.heap.size := by rw [← hwb]; simp
    rw [hwb]
    clear hwb
    go_wp2
    go_loopw [10, 31] (fun av iv wr => ∃ (i : Nat) (z : Int), i ≤ l.length ∧ Hid (Ps.sumI (fun j => lim (wgW u d s j)) (List.range i) = z) ∧ 0 ≤ z ∧ z ≤ (i : Int) * 1073741825 ∧ av = .int .i64 z ∧ iv = .int .i64 (i : Int) ∧ Hid (RowI wr wb.heap.size (mkd (fun j => lim (wgW u d s j)) l.length i)) ∧ Below wb.heap.size wb wr) (fun _ iv _ => l.length - (intOf iv).toNat)
    case atStart => exact ⟨0, 0, Nat.zero_le _, rfl, by omega, by omega, rfl, rfl, by show RowI _ _ _; rw [mkd_zero]; exact RowI.made _ _, ba _ _⟩
    case round =>
      obtain ⟨i, z, hi, HZ, z0, z1, rfl, rfl, HRow, hbl⟩ := hrel
      by_cases h1 : i < l.length
      · obtain ⟨mk, hmk2⟩ := get_lt (l := s) (i := i) (by rw [HSl.out]; exact h1)
        have egk : s.getD i 0 = mk := by simp [List.getD, hmk2]
        have mkW : mk ≤ Wn := by rw [← egk, ← HWn.out]; exact mxN_le (by rw [HSl.out]; exact h1)
        have f1 : wr.cell? ⟨g, i, none⟩ = some (.int .i64 ((mk : Nat) : Int)) := by
          have e1 := (HRow1.out.keep (HBb.out.trans (hbl.mono (by omega))) glt).cells i ((mk : Nat) : Int) (by rw [HFar.out]; simp [asI, hmk2])
          exact e1
        have r1 := HRow.out.cells i 0 (by rw [mkd_get _ h1]; simp)
        have r2 := HRow.out.thaw i (by rw [mkd_len]; exact h1)
        have rlt := HRow.out.lt
        have j0 : wr.cell? ⟨w1.heap.size, 0, none⟩ = some (.int .i64 u) := (hbl.cell (p := ⟨w1.heap.size, 0, none⟩) klt).trans k0
        have j1 : wr.cell? ⟨w1.heap.size, 1, none⟩ = some (.int .i64 d) := (hbl.cell (p := ⟨w1.heap.size, 1, none⟩) klt).trans k1
        have j0d : wr.drew.cell? ⟨w1.heap.size, 0, none⟩ = some (.int .i64 u) := j0
        have j1d : wr.drew.cell? ⟨w1.heap.size, 1, none⟩ = some (.int .i64 d) := j1
        have r1d : wr.drew.cell? ⟨wb.heap.size, i, none⟩ = some (.int .i64 0) := r1
        have r2d : wr.drew.frozen? ⟨wb.heap.size, i, none⟩ = false := r2
        have rltd : wb.heap.size < wr.drew.heap.size := rlt
        obtain ⟨Df, hDf⟩ : ∃ D, ((Wn : Nat) : Int) - ((mk : Nat) : Int) = D := ⟨_, rfl⟩
        have hwr : IntKind.i64.wrap (((Wn : Nat) : Int) - ((mk : Nat) : Int)) = Df := by rw [IntKind.wrap_i64]; omega
        have df0 : 0 ≤ Df := by omega
        have df1 : Df ≤ 64 := by omega
        obtain ⟨S, hS⟩ : ∃ S, lim (wgW u d s i) = S := ⟨_, rfl⟩
        have hpq : prdT [lim (u ^ Df.toNat), lim (d ^ (((mk : Nat) : Int)).toNat)] = S := by
          rw [prd_two (pow_fac hu1 _), lim_mul2 (pow_pos' hu1 _) (pow_pos' hd1 _), ← hS]
          unfold wgW
          rw [egk, HWn.out]
          have e1 : Df.toNat = Wn - mk := by omega
          rw [e1, Int.toNat_natCast]
        have kq := fun (W : World) => product_any (W.heap.size + 1) _ [lim (u ^ Df.toNat), lim (d ^ (((mk : Nat) : Int)).toNat)] _ (num_two W _ _) (by
          intro y hy
          simp at hy
          rcases hy with rfl | rfl
          · exact pow_fac hu1 _
          · exact pow_fac hd1 _) S hpq
        have sf : 1 ≤ S ∧ S ≤ 1073741825 := by
          have h2 : 1 ≤ wgW u d s i := by
            unfold wgW
            exact Int.le_of_lt_add_one (by have := Int.mul_pos (show (0 : Int) < u ^ (mxN s - s.getD i 0) from Int.pow_pos (by omega)) (show (0 : Int) < d ^ s.getD i 0 from Int.pow_pos (by omega)); omega)
          have := lim_bd h2
          rw [hS] at this
          exact ⟨this.1, this.2.1⟩
        obtain ⟨sf1, sf2⟩ := sf
        have HS2 : Hid (Ps.sumI (fun j => lim (wgW u d s j)) (List.range (i + 1)) = z + S) := by show _ = _; rw [sumI_range_succ, HZ.out, hS]
        have HRS : Hid (lim (wgW u d s i) = S) := hS
        have HBbr : Hid (Below wb.heap.size wb wr) := hbl
        have nlt : ¬ w1.heap.size = wb.heap.size := by omega
        have nlt2 : ¬ wb.heap.size = w1.heap.size := by omega
        have jlt : w1.heap.size < wr.heap.size := by omega
        have jltd : w1.heap.size < wr.drew.heap.size := jlt
        clear hmk2 egk hpq hS HZ hmk hDf
        go_wp2
        go_region_held3 (fun w' => Below wb.heap.size wb w' ∧ w1.heap.size < w'.heap.size ∧ w'.cell? ⟨w1.heap.size, 0, none⟩ = some (.int .i64 u) ∧ w'.cell? ⟨w1.heap.size, 1, none⟩ = some (.int .i64 d))
          ((go_split_ands; refine ⟨?_, ?_, ?_, ?_⟩ <;> first | assumption | (refine bal (bs B5 ?_ _) _; exact Nat.le_refl _) | (exact HBbr.out) | (exact HBbr.out.drew) | (exact bt (by assumption) hb5) | (exact bt HBbr.out.drew hb5) | (exact bal (by assumption) _) | (exact bs (by assumption) (Nat.le_refl _) _) | omega | (exact (hc5 _ _ (by assumption)).trans (by assumption)) | (simp [go_sem, *]; done) | (simp; omega) | (exact cell_sa _ j5 nlt2 (by omega)) | (exact cell_sa _ j6 nlt2 (by omega))))
          (first
            | (go_at_call 25; refine (cpowI_any _ _ _ ?_ ?_ ?_ ?_).mono ?_; (omega); (omega); (omega); (omega); rintro x5 w5 ⟨rfl, hb5⟩; obtain ⟨hc5, hf5⟩ := bcell hb5; have hs5 := hb5.size; have r3 : w5.cell? ⟨wb.heap.size, i, none⟩ = some (.int .i64 0) := (hc5 _ _ (by assumption)).trans (by assumption); have r4 : w5.frozen? ⟨wb.heap.size, i, none⟩ = false := (hf5 _ _ (by assumption)).trans (by assumption); have r5 : wb.heap.size < w5.heap.size := (by omega); have j5 : w5.cell? ⟨w1.heap.size, 0, none⟩ = some (.int .i64 u) := (hc5 _ _ (by assumption)).trans (by assumption); have j6 : w5.cell? ⟨w1.heap.size, 1, none⟩ = some (.int .i64 d) := (hc5 _ _ (by assumption)).trans (by assumption); have j7 : w1.heap.size < w5.heap.size := (by omega); have B5 : Below wb.heap.size wb w5 := (by first | exact bt HBbr.out.drew hb5 | exact bt B5 hb5); have T5 : Below wr.heap.size wr w5 := (by first | exact (Below.refl _ _).drew.trans hb5 | exact bt T5 hb5))
            | (go_at_call 24; refine (kq _).mono ?_; rintro x6 w6 ⟨rfl, rfl⟩))
        rename_i hHeld
        obtain ⟨B9, -, -, -⟩ := hHeld
        have HRow9 : Hid (RowI ((w5.setCell ⟨wb.heap.size, i, none⟩ (.int .i64 S)).alloc (.cells #[.int .i64 (lim (u ^ Df.toNat)), .int .i64 (lim (d ^ mk))] 3)) wb.heap.size (mkd (fun j => lim (wgW u d s j)) l.length (i + 1))) := by
          have h2 := ((HRow.out.keep T5 rlt).set i S)
          have h3 := mkd_set (fun j => lim (wgW u d s j)) h1
          simp only [HRS.out] at h3
          rw [h3] at h2
          exact h2.keep (ba _ _) h2.lt
        obtain ⟨W9, hW9⟩ : ∃ W9, (w5.setCell ⟨wb.heap.size, i, none⟩ (.int .i64 S)).alloc (.cells #[.int .i64 (lim (u ^ Df.toNat)), .int .i64 (lim (d ^ mk))] 3) = W9 := ⟨_, rfl⟩
        rw [hW9] at B9 HRow9 ⊢
        have t1 := HRow9.out.cells i S (by rw [mkd_get _ h1, if_pos (by omega), HRS.out])
        have t2 := HRow9.out.lt
        clear hW9 hc5 hf5 hs5 hb5 r3 r4 r5 j5 j6 j7 B5 T5 kq r1 r2 r1d r2d j0 j1 j0d j1d hwr HRS HRow
        go_wp2
        go_roundw
        case rel => exact ⟨i + 1, z + S, h1, HS2, by omega, by omega, by first | rfl | go_num, by go_num, HRow9, B9⟩
        case measure => simp [intOf]; omega
      · have : i = l.length := by omega
        subst this
        have hg1 : ∀ i ∈ List.range l.length, 1 ≤ wgW u d s i := fun i _ => by
          unfold wgW
          exact Int.le_of_lt_add_one (by have := Int.mul_pos (show (0 : Int) < u ^ (mxN s - s.getD i 0) from Int.pow_pos (by omega)) (show (0 : Int) < d ^ s.getD i 0 from Int.pow_pos (by omega)); omega)
        obtain ⟨m1, m2⟩ := lim_sum hg1
        rw [HZ.out] at m1
        have hk := HR.out
        unfold weighT at hk
        rw [HE0.out, if_neg (by simp), HS.out] at hk
        by_cases cm : 1073741824 < z
        · rw [if_pos (m1.1 cm)] at hk
          simp only [Prod.mk.injEq] at hk
          obtain ⟨rfl, rfl⟩ := hk
          have G9 := bt (bt G1 HBb.out) hbl
          clear HR m1 m2 hg1 HZ HRow
          go_wp2
          exact bodyPost_ret (v := .tuple #[.slice none 0 0, .int .i64 4]) (by simp [results, Try.results7, go_sem]) rfl (ansNo G9)
        · have cm2 : ¬ 1073741824 < Ps.sumI (wgW u d s) (List.range l.length) := fun h => cm (m1.2 h)
          rw [if_neg cm2] at hk
          have hall := m2 (by omega)
          have hnp : numP (mkd (fun j => lim (wgW u d s j)) l.length l.length) = numL l.length (wgW u d s) := by
            rw [mkd_all _ (Nat.le_refl _), ← numP_numL]
            congr 1
            exact List.map_congr_left fun i hi => hall i hi
          have HNw : Hid (Num wr wr.heap.size (.slice (some ⟨wb.heap.size, 0, none⟩) l.length l.length) (mkd (fun j => lim (wgW u d s j)) l.length l.length)) := by
            have := HRow.out.num (by rw [mkd_len]; omega) HRow.out.lt
            rw [mkd_len] at this
            exact this
          have kn := numbered_fr wr.heap.size _ _ wr HNw.out (Nat.le_refl _) (by rw [mkd_len]; exact l8) k er (by rw [hnp]; exact hk)
          have G9 := bt (bt G1 HBb.out) hbl
          have gs := G9.size
          clear HR m1 m2 hg1 HZ HRow hk hall hnp cm2 HNw
          go_wp2_with fail
          refine kn.mono ?_
          rintro e w5 ⟨v5, xs, rfl, q1, q2, q3, q4⟩
          obtain ⟨b5, d5, rfl⟩ := q2.slice
          clear kn
          go_wp2
          exact bodyPost_ret (v := .tuple #[.slice b5 xs.length d5, .int .i64 er]) (by simp [results, Try.results7, go_sem]) rfl ⟨_, xs, rfl, q1, q2.mono gs, bt G9 q3, q4.mono gs⟩
  · have c1 : (e0 == 0) = false := by simpa using c0
    have c2 : (e0 != 0) = true := by simpa using c0
    have hk := HR.out
    unfold weighT at hk
    rw [HE0.out, if_pos c0] at hk
    simp only [Prod.mk.injEq] at hk
    obtain ⟨rfl, rfl⟩ := hk
    clear HR HE0
    go_enter Try.func7, Try.ntmps7
    go_wp2_with fail
    refine (km _ (HN.out.at hB (ba _ _)) (by simp; omega)).mono ?_
    rintro e w1 ⟨hP, hb1⟩
    clear km
    rcases hP with ⟨_, rfl⟩ | ⟨h, _⟩
    · have G1 := bt (ba _ _) hb1
      unfold noBel
      go_wp2
      exact bodyPost_ret (v := .tuple #[.slice none 0 0, .int .i64 e0]) (by simp [results, Try.results7, go_sem]) rfl (ansNo (bal G1 _))
    · exact absurd h c0
end Go.Proofs.Ythmkbkombjhaeaa
