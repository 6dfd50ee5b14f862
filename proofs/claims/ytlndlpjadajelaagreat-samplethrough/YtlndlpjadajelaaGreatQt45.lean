import Derived.Test.YtlndlpjadajelaaGreatQt44
import Derived.Deep.AppendLies
import Derived.Deep.RegionHeld3
import Derived.Deep.RegionLaw
namespace Go.Proofs.YtlndlpjadajelaaGreat.K
open Go.RowKit Go.Proofs.YtlndlpjadajelaaGreat.K.Ds

set_option maxHeartbeats 4000000 in
set_option maxRecDepth 100000 in
theorem ran6_any (c : ByteArray) (lo hi : Int) (cv rv wv : Value) (b o cap : Nat) (w : World) (B : Nat) (l : List Col) (ts : List Rw) (wh : List Tst) (hB : B ≤ w.heap.size) (hp : Cols w B cv l) (hr : Rws w B rv ts) (hw : Tss w B wv wh) (hbB : b < B) (x : Qu) (u0 u1 u2 u3 u4 u5 : Value) (hu : At6 w b o u0 u1 u2 u3 u4 u5) (hqx : Qm w B x u0 u1 u2 u3 u4 u5) (xs : List Int) (kx : ∀ W, Below w.heap.size w W → Calls Tryz.prog 77 #[.agg #[cv, rv], .agg #[u0, u1, u2, u3, u4, u5]] W (AnsR W xs)) (hbx : Bdd 1099511627776 xs) (hlo : -1048576 ≤ lo ∧ lo ≤ 1048576) (hxl : xs.length ≤ 4096) :
    Calls Tryz.prog 77 #[.agg #[cv, rv], .agg #[.int .i64 6, .string c, .int .i64 lo, .int .i64 hi, wv, .slice (some ⟨b, o, none⟩) 1 cap]] w (AnsR w (xs.map (lo * ·))) := by
  have ab := Rb.new w cv rv 6 c lo hi wv (.slice (some ⟨b, o, none⟩) 1 cap)
  have hb0 := b2a w (.cells #[cv, rv] 27) (.cells #[.int .i64 6, .string c, .int .i64 lo, .int .i64 hi, wv, .slice (some ⟨b, o, none⟩) 1 cap] 31)
  obtain ⟨W0, hW0⟩ : ∃ W0, ((w.alloc (.cells #[cv, rv] 27)).alloc (.cells #[.int .i64 6, .string c, .int .i64 lo, .int .i64 hi, wv, .slice (some ⟨b, o, none⟩) 1 cap] 31)) = W0 := ⟨_, rfl⟩
  rw [hW0] at ab hb0
  have HW0 : Hid (((w.alloc (.cells #[cv, rv] 27)).alloc (.cells #[.int .i64 6, .string c, .int .i64 lo, .int .i64 hi, wv, .slice (some ⟨b, o, none⟩) 1 cap] 31)) = W0) := hW0
  have HAB : Hid (Rb W0 w.heap.size cv rv 6 c lo hi wv (.slice (some ⟨b, o, none⟩) 1 cap)) := ab
  have k1 := rkids_any 6 W0 1 rfl
  have k2 := kx W0.drew hb0.drew
  have lb : b < W0.heap.size := Nat.lt_of_lt_of_le hbB (Nat.le_trans hB hb0.size)
  obtain ⟨xc3, xc4, xc5, xc6, xc7, xc8⟩ := hu.keep hb0 (Nat.lt_of_lt_of_le hbB hB)
  obtain ⟨ca, ccp, rfl, _⟩ := hp.slice
  obtain ⟨ra, rc, rfl, _⟩ := hr.slice
  obtain ⟨wa, wc, rfl, _⟩ := hw.slice
  obtain ⟨ukk, ukc, ukl, ukh, uka, ukn, ukd, ukb, ukm, ukp, rfl, rfl, rfl, rfl, rfl, rfl⟩ := hqx.shape
  have xc0 := ab.t0.c
  have xc1 := ab.t1.c
  have xc2 := ab.a5.c
  have m0 := ab.a0.c
  have lN := ab.t0.lt
  have lN1 := ab.a5.lt
  have hnk1 : (0 : Int) ≤ 0 := by decide
  have hnk2 : (0 : Int) < (1 : Int) := by decide
  have HBB : Hid (b < B ∧ B ≤ w.heap.size) := ⟨hbB, hB⟩
  clear hp hr hw hu hqx kx ab
  obtain ⟨R, hR⟩ : ∃ R, xs.map (lo * ·) = R := ⟨_, rfl⟩
  rw [hR]
  have HRR : Hid (xs.map (lo * ·) = R) := hR
  have HRL : Hid (R.length = xs.length) := by show _ = _; rw [← hR]; first | (simp; done) | (simp; omega)
  clear hR
  go_enter Tryz.func77, Tryz.ntmps77
  go_wp2_with fail
  refine k1.mono ?_
  rintro e w0 ⟨rfl, hw0⟩
  subst hw0
  clear k1 hW0
  go_wp2
  go_region_held3 (fun w' => w'.cell? ⟨w.heap.size, 0, none⟩ = some (.slice ca l.length ccp) ∧ w'.cell? ⟨w.heap.size, 1, none⟩ = some (.slice ra ts.length rc) ∧ w'.cell? ⟨w.heap.size + 1, 5, none⟩ = some (.slice (some ⟨b, o, none⟩) 1 cap) ∧ w'.cell? ⟨b, o, none⟩ = some (.int .i64 ukk) ∧ w'.cell? ⟨b, o + 1, none⟩ = some (.string ukc) ∧ w'.cell? ⟨b, o + 2, none⟩ = some (.int .i64 ukl) ∧ w'.cell? ⟨b, o + 3, none⟩ = some (.int .i64 ukh) ∧ w'.cell? ⟨b, o + 4, none⟩ = some (.slice uka ukn ukd) ∧ w'.cell? ⟨b, o + 5, none⟩ = some (.slice ukb ukm ukp)) (first | assumption | (simp [go_sem, *]; done)) ((go_at_call 77; refine k2.mono ?_; rintro x3 w1 hA; obtain ⟨x1a, x1c, rfl, x1I, x1b⟩ := hA; have w1z0 := (x1b.cell (p := ⟨w.heap.size, 0, none⟩) lN).trans xc0; have w1z1 := (x1b.cell (p := ⟨w.heap.size, 1, none⟩) lN).trans xc1; have w1z2 := (x1b.cell (p := ⟨w.heap.size + 1, 5, none⟩) lN1).trans xc2; have w1z3 := (x1b.cell (p := ⟨b, o, none⟩) lb).trans xc3; have w1z4 := (x1b.cell (p := ⟨b, o + 1, none⟩) lb).trans xc4; have w1z5 := (x1b.cell (p := ⟨b, o + 2, none⟩) lb).trans xc5; have w1z6 := (x1b.cell (p := ⟨b, o + 3, none⟩) lb).trans xc6; have w1z7 := (x1b.cell (p := ⟨b, o + 4, none⟩) lb).trans xc7; have w1z8 := (x1b.cell (p := ⟨b, o + 5, none⟩) lb).trans xc8))
  have hbw1 : Below w.heap.size w w1 := bt hb0.drew x1b
  have HB1 : Hid (Rb w1 w.heap.size (.slice ca l.length ccp) (.slice ra ts.length rc) 6 c lo hi (.slice wa wh.length wc) (.slice (some ⟨b, o, none⟩) 1 cap)) := (HAB.out.at (Below.refl _ _).drew).at x1b
  have HX1 : Hid (Ints w1 w1.heap.size w1.heap.size (.slice x1a xs.length x1c) xs) := x1I
  have m1 := HB1.out.a0.c
  clear k2 m0 xc0 xc1 xc2 xc3 xc4 xc5 xc6 xc7 xc8 w1z0 w1z1 w1z2 w1z3 w1z4 w1z5 w1z6 w1z7 w1z8 x1I
  have l0 : 0 < w1.heap.size := Nat.lt_of_le_of_lt (Nat.zero_le _) HB1.out.t0.lt
  obtain ⟨i0, hi0, hz0, hz1, hz2⟩ := info_parts info3
  go_wp2
  go_loopw [11, 166] (fun ov s' wr => ∃ (i : Nat) (va : Option Addr) (vc : Nat), ov = .slice va i vc ∧ s' = .int .i64 (i : Int) ∧ i ≤ xs.length ∧ Hid (wr.ownsRow w1.heap.size 3 1 (.slice va i vc) i ((R.take i).map (.int .i64))) ∧ Below w1.heap.size w1 wr) (fun _ s' _ => xs.length - (intOf s').toNat)
  case atStart => exact ⟨0, none, 0, rfl, rfl, Nat.zero_le _, ⟨rfl, .inl ⟨rfl, rfl⟩⟩, Below.refl _ _⟩
  case round =>
    obtain ⟨i, va, vc, rfl, rfl, hil, HR, hbl⟩ := hrel
    have hsl := hbl.size
    by_cases h1 : i < xs.length
    · obtain ⟨b1, o1, p, rfl, _, hb1, _, hg1, _, hc1⟩ := (HX1.out.keep hbl).got h1
      have bp := hbx.get hg1
      have bm := mul_abs hlo bp
      have HGR : Hid (R[i]? = some (lo * p)) := by rw [← HRR.out]; show (xs.map _)[i]? = _; rw [List.getElem?_map, hg1]; rfl
      have hw1 : IntKind.i64.wrap (p * lo) = lo * p := by rw [Int.mul_comm p lo, IntKind.wrap_i64]; have := wrap_id (a := lo * p) (by omega); unfold wrap64 at this; omega
      have hj1 : (0 : Int) ≤ (i : Int) := by omega
      have hj2 : (i : Int) < (xs.length : Int) := by omega
      have HBr := HB1.out.at hbl
      have m3 := HBr.a2.c
      have m3d : wr.drew.cell? ⟨w.heap.size + 1, 2, none⟩ = some (.int .i64 lo) := m3
      have lN2 : w.heap.size + 1 < wr.heap.size := HBr.a2.lt
      have lN3 : w.heap.size + 1 < w1.heap.size := HB1.out.a2.lt
      have lb1 : b1 < wr.heap.size := by omega
      have hc1d : wr.drew.cell? ⟨b1, o1 + i, none⟩ = some (.int .i64 p) := hc1
      clear hg1 HBr bm
      go_wp2_with fail
      go_region_held3 (fun w' => w'.cell? ⟨b1, o1 + i, none⟩ = some (.int .i64 p) ∧ w'.cell? ⟨w.heap.size + 1, 2, none⟩ = some (.int .i64 lo)) (first | assumption | (simp [go_sem, *]; done)) ((refine step_append_lies _ rfl _ _ 65 rfl w1.heap.size 3 i0 (.int .i64 0) 1 8 Tryz.underlying65 hi0 hz0 hz1 hz2 rfl (by decide) (.slice va i vc) i ((R.take i).map (.int .i64)) rfl ?_ ⟨wr.heap.size, 0, none⟩ 1 1 [.int .i64 (lo * p)] rfl rfl ?_ ?_ (by decide) ?_ ?_ ?_ (wr.heap.size + 1) ?_ ?_; (exact owns_below HR.out (bal (Below.refl _ _).drew _)); (exact one_cell _ _ _); (intro u hu; simp at hu; subst hu; rfl); (unfold maxLen; omega); (omega); (simp; omega); (simp); intro g cap' w4 hown hgrow hat hlt; have k70 : w4.cell? ⟨b1, o1 + i, none⟩ = some (.int .i64 p) := hgrow.cell (((ba _ _).cell (p := ⟨b1, o1 + i, none⟩) lb1).trans hc1d) (fun e => absurd (owns_block HR.out _ e.symm) (Nat.not_le_of_lt hb1)); have k71 : w4.cell? ⟨w.heap.size + 1, 2, none⟩ = some (.int .i64 lo) := hgrow.cell (((ba _ _).cell (p := ⟨w.heap.size + 1, 2, none⟩) lN2).trans m3d) (fun e => absurd (owns_block HR.out _ e.symm) (Nat.not_le_of_lt lN3))))
      have HR4 : Hid (w4.ownsRow w1.heap.size 3 1 (.slice (some ⟨g, 0, none⟩) (i + 1) cap') (i + 1) ((R.take (i + 1)).map (.int .i64))) := by
        show World.ownsRow _ _ _ _ _ _ _
        rw [take_more HGR.out]; exact hown
      have HB4 : Below w1.heap.size w1 w4 := hbl.trans (((bal (Below.refl _ _).drew _).mono hsl).trans (gro_bel hgrow (owns_block HR.out) (Nat.le_refl _) (by simp; omega)))
      clear hown hgrow hat hlt
      go_wp2
      go_roundw
      case rel => exact ⟨i + 1, _, _, rfl, by go_num, h1, HR4, HB4⟩
      case measure => simp [intOf]; omega
    · obtain rfl : i = xs.length := by omega
      have HR2 : Hid (wr.ownsRow w1.heap.size 3 1 (.slice va R.length vc) R.length (R.map (.int .i64))) := by
        have := HR.out
        rw [List.take_of_length_le (by have := HRL.out; omega)] at this
        show World.ownsRow _ _ _ _ _ _ _
        rw [HRL.out]; exact this
      go_wp2
      go_ret
      exact ⟨va, vc, by rw [HRL.out]; rfl, owns_ints rfl (by have := HRL.out; omega) HR2.out l0, bt hbw1 hbl⟩

set_option maxHeartbeats 4000000 in
set_option maxRecDepth 100000 in
theorem ran10_any (c : ByteArray) (lo hi : Int) (cv rv wv : Value) (b o cap : Nat) (w : World) (B : Nat) (l : List Col) (ts : List Rw) (wh : List Tst) (hB : B ≤ w.heap.size) (hp : Cols w B cv l) (hr : Rws w B rv ts) (hw : Tss w B wv wh) (hbB : b < B) (x : Qu) (u0 u1 u2 u3 u4 u5 : Value) (hu : At6 w b o u0 u1 u2 u3 u4 u5) (hqx : Qm w B x u0 u1 u2 u3 u4 u5) (xs : List Int) (kx : ∀ W, Below w.heap.size w W → Calls Tryz.prog 77 #[.agg #[cv, rv], .agg #[u0, u1, u2, u3, u4, u5]] W (AnsR W xs)) (hxl : xs.length ≤ 4096) :
    Calls Tryz.prog 77 #[.agg #[cv, rv], .agg #[.int .i64 10, .string c, .int .i64 lo, .int .i64 hi, wv, .slice (some ⟨b, o, none⟩) 1 cap]] w (AnsR w (xs.map (inT lo hi))) := by
  have ab := Rb.new w cv rv 10 c lo hi wv (.slice (some ⟨b, o, none⟩) 1 cap)
  have hb0 := b2a w (.cells #[cv, rv] 27) (.cells #[.int .i64 10, .string c, .int .i64 lo, .int .i64 hi, wv, .slice (some ⟨b, o, none⟩) 1 cap] 31)
  obtain ⟨W0, hW0⟩ : ∃ W0, ((w.alloc (.cells #[cv, rv] 27)).alloc (.cells #[.int .i64 10, .string c, .int .i64 lo, .int .i64 hi, wv, .slice (some ⟨b, o, none⟩) 1 cap] 31)) = W0 := ⟨_, rfl⟩
  rw [hW0] at ab hb0
  have HW0 : Hid (((w.alloc (.cells #[cv, rv] 27)).alloc (.cells #[.int .i64 10, .string c, .int .i64 lo, .int .i64 hi, wv, .slice (some ⟨b, o, none⟩) 1 cap] 31)) = W0) := hW0
  have HAB : Hid (Rb W0 w.heap.size cv rv 10 c lo hi wv (.slice (some ⟨b, o, none⟩) 1 cap)) := ab
  have k1 := rkids_any 10 W0 1 rfl
  have k2 := kx W0.drew hb0.drew
  have lb : b < W0.heap.size := Nat.lt_of_lt_of_le hbB (Nat.le_trans hB hb0.size)
  obtain ⟨xc3, xc4, xc5, xc6, xc7, xc8⟩ := hu.keep hb0 (Nat.lt_of_lt_of_le hbB hB)
  obtain ⟨ca, ccp, rfl, _⟩ := hp.slice
  obtain ⟨ra, rc, rfl, _⟩ := hr.slice
  obtain ⟨wa, wc, rfl, _⟩ := hw.slice
  obtain ⟨ukk, ukc, ukl, ukh, uka, ukn, ukd, ukb, ukm, ukp, rfl, rfl, rfl, rfl, rfl, rfl⟩ := hqx.shape
  have xc0 := ab.t0.c
  have xc1 := ab.t1.c
  have xc2 := ab.a5.c
  have m0 := ab.a0.c
  have lN := ab.t0.lt
  have lN1 := ab.a5.lt
  have hnk1 : (0 : Int) ≤ 0 := by decide
  have hnk2 : (0 : Int) < (1 : Int) := by decide
  have HBB : Hid (b < B ∧ B ≤ w.heap.size) := ⟨hbB, hB⟩
  clear hp hr hw hu hqx kx ab
  obtain ⟨R, hR⟩ : ∃ R, xs.map (inT lo hi) = R := ⟨_, rfl⟩
  rw [hR]
  have HRR : Hid (xs.map (inT lo hi) = R) := hR
  have HRL : Hid (R.length = xs.length) := by show _ = _; rw [← hR]; first | (simp; done) | (simp; omega)
  clear hR
  go_enter Tryz.func77, Tryz.ntmps77
  go_wp2_with fail
  refine k1.mono ?_
  rintro e w0 ⟨rfl, hw0⟩
  subst hw0
  clear k1 hW0
  go_wp2
  go_region_held3 (fun w' => w'.cell? ⟨w.heap.size, 0, none⟩ = some (.slice ca l.length ccp) ∧ w'.cell? ⟨w.heap.size, 1, none⟩ = some (.slice ra ts.length rc) ∧ w'.cell? ⟨w.heap.size + 1, 5, none⟩ = some (.slice (some ⟨b, o, none⟩) 1 cap) ∧ w'.cell? ⟨b, o, none⟩ = some (.int .i64 ukk) ∧ w'.cell? ⟨b, o + 1, none⟩ = some (.string ukc) ∧ w'.cell? ⟨b, o + 2, none⟩ = some (.int .i64 ukl) ∧ w'.cell? ⟨b, o + 3, none⟩ = some (.int .i64 ukh) ∧ w'.cell? ⟨b, o + 4, none⟩ = some (.slice uka ukn ukd) ∧ w'.cell? ⟨b, o + 5, none⟩ = some (.slice ukb ukm ukp)) (first | assumption | (simp [go_sem, *]; done)) ((go_at_call 77; refine k2.mono ?_; rintro x3 w1 hA; obtain ⟨x1a, x1c, rfl, x1I, x1b⟩ := hA; have w1z0 := (x1b.cell (p := ⟨w.heap.size, 0, none⟩) lN).trans xc0; have w1z1 := (x1b.cell (p := ⟨w.heap.size, 1, none⟩) lN).trans xc1; have w1z2 := (x1b.cell (p := ⟨w.heap.size + 1, 5, none⟩) lN1).trans xc2; have w1z3 := (x1b.cell (p := ⟨b, o, none⟩) lb).trans xc3; have w1z4 := (x1b.cell (p := ⟨b, o + 1, none⟩) lb).trans xc4; have w1z5 := (x1b.cell (p := ⟨b, o + 2, none⟩) lb).trans xc5; have w1z6 := (x1b.cell (p := ⟨b, o + 3, none⟩) lb).trans xc6; have w1z7 := (x1b.cell (p := ⟨b, o + 4, none⟩) lb).trans xc7; have w1z8 := (x1b.cell (p := ⟨b, o + 5, none⟩) lb).trans xc8))
  have hbw1 : Below w.heap.size w w1 := bt hb0.drew x1b
  have HB1 : Hid (Rb w1 w.heap.size (.slice ca l.length ccp) (.slice ra ts.length rc) 10 c lo hi (.slice wa wh.length wc) (.slice (some ⟨b, o, none⟩) 1 cap)) := (HAB.out.at (Below.refl _ _).drew).at x1b
  have HX1 : Hid (Ints w1 w1.heap.size w1.heap.size (.slice x1a xs.length x1c) xs) := x1I
  have m1 := HB1.out.a0.c
  clear k2 m0 xc0 xc1 xc2 xc3 xc4 xc5 xc6 xc7 xc8 w1z0 w1z1 w1z2 w1z3 w1z4 w1z5 w1z6 w1z7 w1z8 x1I
  have l0 : 0 < w1.heap.size := Nat.lt_of_le_of_lt (Nat.zero_le _) HB1.out.t0.lt
  obtain ⟨i0, hi0, hz0, hz1, hz2⟩ := info_parts info3
  go_wp2
  go_loopw [11, 104] (fun ov s' wr => ∃ (i : Nat) (va : Option Addr) (vc : Nat), ov = .slice va i vc ∧ s' = .int .i64 (i : Int) ∧ i ≤ xs.length ∧ Hid (wr.ownsRow w1.heap.size 3 1 (.slice va i vc) i ((R.take i).map (.int .i64))) ∧ Below w1.heap.size w1 wr) (fun _ s' _ => xs.length - (intOf s').toNat)
  case atStart => exact ⟨0, none, 0, rfl, rfl, Nat.zero_le _, ⟨rfl, .inl ⟨rfl, rfl⟩⟩, Below.refl _ _⟩
  case round =>
    obtain ⟨i, va, vc, rfl, rfl, hil, HR, hbl⟩ := hrel
    have hsl := hbl.size
    by_cases h1 : i < xs.length
    · obtain ⟨b1, o1, p, rfl, _, hb1, _, hg1, _, hc1⟩ := (HX1.out.keep hbl).got h1
      obtain ⟨z, hz⟩ : ∃ z, inT lo hi p = z := ⟨_, rfl⟩
      have HGR : Hid (R[i]? = some z) := by rw [← HRR.out]; show (xs.map _)[i]? = _; rw [List.getElem?_map, hg1, ← hz]; rfl
      have kt := rinto_any lo hi p wr.drew
      rw [hz] at kt
      have hj1 : (0 : Int) ≤ (i : Int) := by omega
      have hj2 : (i : Int) < (xs.length : Int) := by omega
      have HBr := HB1.out.at hbl
      have m3 := HBr.a2.c
      have m4 := HBr.a3.c
      have m3d : wr.drew.cell? ⟨w.heap.size + 1, 2, none⟩ = some (.int .i64 lo) := m3
      have m4d : wr.drew.cell? ⟨w.heap.size + 1, 3, none⟩ = some (.int .i64 hi) := m4
      have lN2 : w.heap.size + 1 < wr.heap.size := HBr.a2.lt
      have lN3 : w.heap.size + 1 < w1.heap.size := HB1.out.a2.lt
      have lb1 : b1 < wr.heap.size := by omega
      have hc1d : wr.drew.cell? ⟨b1, o1 + i, none⟩ = some (.int .i64 p) := hc1
      clear hg1 HBr hz
      go_wp2_with fail
      go_region_held3 (fun w' => w'.cell? ⟨b1, o1 + i, none⟩ = some (.int .i64 p) ∧ w'.cell? ⟨w.heap.size + 1, 2, none⟩ = some (.int .i64 lo) ∧ w'.cell? ⟨w.heap.size + 1, 3, none⟩ = some (.int .i64 hi)) (first | assumption | (simp [go_sem, *]; done)) (first | (go_at_call 144; refine kt.mono ?_; rintro x3 w3 hE; obtain ⟨rfl, hw3⟩ := hE; subst hw3) | (refine step_append_lies _ rfl _ _ 65 rfl w1.heap.size 3 i0 (.int .i64 0) 1 8 Tryz.underlying65 hi0 hz0 hz1 hz2 rfl (by decide) (.slice va i vc) i ((R.take i).map (.int .i64)) rfl ?_ ⟨wr.heap.size, 0, none⟩ 1 1 [.int .i64 z] rfl rfl ?_ ?_ (by decide) ?_ ?_ ?_ (wr.heap.size + 1) ?_ ?_; (exact owns_below HR.out (bal (Below.refl _ _).drew _)); (exact one_cell _ _ _); (intro u hu; simp at hu; subst hu; rfl); (unfold maxLen; omega); (omega); (simp; omega); (simp); intro g cap' w4 hown hgrow hat hlt; have k70 : w4.cell? ⟨b1, o1 + i, none⟩ = some (.int .i64 p) := hgrow.cell (((ba _ _).cell (p := ⟨b1, o1 + i, none⟩) lb1).trans hc1d) (fun e => absurd (owns_block HR.out _ e.symm) (Nat.not_le_of_lt hb1)); have k71 : w4.cell? ⟨w.heap.size + 1, 2, none⟩ = some (.int .i64 lo) := hgrow.cell (((ba _ _).cell (p := ⟨w.heap.size + 1, 2, none⟩) lN2).trans m3d) (fun e => absurd (owns_block HR.out _ e.symm) (Nat.not_le_of_lt lN3)); have k72 : w4.cell? ⟨w.heap.size + 1, 3, none⟩ = some (.int .i64 hi) := hgrow.cell (((ba _ _).cell (p := ⟨w.heap.size + 1, 3, none⟩) lN2).trans m4d) (fun e => absurd (owns_block HR.out _ e.symm) (Nat.not_le_of_lt lN3))))
      have HR4 : Hid (w4.ownsRow w1.heap.size 3 1 (.slice (some ⟨g, 0, none⟩) (i + 1) cap') (i + 1) ((R.take (i + 1)).map (.int .i64))) := by
        show World.ownsRow _ _ _ _ _ _ _
        rw [take_more HGR.out]; exact hown
      have HB4 : Below w1.heap.size w1 w4 := hbl.trans (((bal (Below.refl _ _).drew _).mono hsl).trans (gro_bel hgrow (owns_block HR.out) (Nat.le_refl _) (by simp; omega)))
      clear hown hgrow hat hlt
      go_wp2
      go_roundw
      case rel => exact ⟨i + 1, _, _, rfl, by go_num, h1, HR4, HB4⟩
      case measure => simp [intOf]; omega
    · obtain rfl : i = xs.length := by omega
      have HR2 : Hid (wr.ownsRow w1.heap.size 3 1 (.slice va R.length vc) R.length (R.map (.int .i64))) := by
        have := HR.out
        rw [List.take_of_length_le (by have := HRL.out; omega)] at this
        show World.ownsRow _ _ _ _ _ _ _
        rw [HRL.out]; exact this
      go_wp2
      go_ret
      exact ⟨va, vc, by rw [HRL.out]; rfl, owns_ints rfl (by have := HRL.out; omega) HR2.out l0, bt hbw1 hbl⟩

end Go.Proofs.YtlndlpjadajelaaGreat.K

namespace Go.Proofs.YtlndlpjadajelaaGreat.K
open Go.RowKit Go.Proofs.YtlndlpjadajelaaGreat.K.Ds

theorem ints_cells {w : World} {B nb b o n c : Nat} {xs : List Int} (h : Ints w B nb (.slice (some ⟨b, o, none⟩) n c) xs) : ∀ j u, (xs.map (Value.int .i64))[j]? = some u → w.cell? ((⟨b, o, none⟩ : Addr).add j) = some u := by
  intro j u hj
  obtain ⟨a, c', e, _, _, hx⟩ := h
  simp only [Value.slice.injEq] at e
  obtain ⟨e1, _, _⟩ := e
  rw [List.getElem?_map] at hj
  cases hx0 : xs[j]? with
  | none => rw [hx0] at hj; cases hj
  | some x =>
    rw [hx0] at hj
    obtain ⟨b', o', ha, _, _, hc⟩ := hx (by rintro rfl; simp at hx0)
    rw [ha] at e1
    simp only [Option.some.injEq, Addr.mk.injEq, and_true] at e1
    obtain ⟨rfl, rfl⟩ := e1
    rw [Addr.add_lit, hc j x hx0]
    exact hj
theorem ones_cell (xs : List Int) : ∀ u ∈ xs.map (Value.int .i64), u.oneCell' = true := by
  intro u hu
  obtain ⟨z, _, rfl⟩ := List.mem_map.1 hu
  rfl

set_option maxHeartbeats 4000000 in
set_option maxRecDepth 100000 in
theorem ran7_any (c : ByteArray) (lo hi : Int) (cv rv wv : Value) (b o cap : Nat) (w : World) (B : Nat) (l : List Col) (ts : List Rw) (wh : List Tst) (hB : B ≤ w.heap.size) (hp : Cols w B cv l) (hr : Rws w B rv ts) (hw : Tss w B wv wh) (hbB : b < B) (x : Qu) (u0 u1 u2 u3 u4 u5 : Value) (hu : At6 w b o u0 u1 u2 u3 u4 u5) (hqx : Qm w B x u0 u1 u2 u3 u4 u5) (xs : List Int) (kx : ∀ W, Below w.heap.size w W → Calls Tryz.prog 77 #[.agg #[cv, rv], .agg #[u0, u1, u2, u3, u4, u5]] W (AnsR W xs)) (y : Qu) (z0 z1 z2 z3 z4 z5 : Value) (hz : At6 w b (o + 6) z0 z1 z2 z3 z4 z5) (hqy : Qm w B y z0 z1 z2 z3 z4 z5) (ys : List Int) (ky : ∀ W, Below w.heap.size w W → Calls Tryz.prog 77 #[.agg #[cv, rv], .agg #[z0, z1, z2, z3, z4, z5]] W (AnsR W ys)) (hx1 : 0 < xs.length) (hy1 : 0 < ys.length) (hl : xs.length + ys.length ≤ 1048576) :
    Calls Tryz.prog 77 #[.agg #[cv, rv], .agg #[.int .i64 7, .string c, .int .i64 lo, .int .i64 hi, wv, .slice (some ⟨b, o, none⟩) 2 cap]] w (AnsR w (xs ++ ys)) := by
  have ab := Rb.new w cv rv 7 c lo hi wv (.slice (some ⟨b, o, none⟩) 2 cap)
  have hb0 := b2a w (.cells #[cv, rv] 27) (.cells #[.int .i64 7, .string c, .int .i64 lo, .int .i64 hi, wv, .slice (some ⟨b, o, none⟩) 2 cap] 31)
  obtain ⟨W0, hW0⟩ : ∃ W0, ((w.alloc (.cells #[cv, rv] 27)).alloc (.cells #[.int .i64 7, .string c, .int .i64 lo, .int .i64 hi, wv, .slice (some ⟨b, o, none⟩) 2 cap] 31)) = W0 := ⟨_, rfl⟩
  rw [hW0] at ab hb0
  have HW0 : Hid (((w.alloc (.cells #[cv, rv] 27)).alloc (.cells #[.int .i64 7, .string c, .int .i64 lo, .int .i64 hi, wv, .slice (some ⟨b, o, none⟩) 2 cap] 31)) = W0) := hW0
  have HAB : Hid (Rb W0 w.heap.size cv rv 7 c lo hi wv (.slice (some ⟨b, o, none⟩) 2 cap)) := ab
  have k1 := rkids_any 7 W0 2 rfl
  have k2 := kx W0.drew hb0.drew
  have lb : b < W0.heap.size := Nat.lt_of_lt_of_le hbB (Nat.le_trans hB hb0.size)
  obtain ⟨xc3, xc4, xc5, xc6, xc7, xc8⟩ := hu.keep hb0 (Nat.lt_of_lt_of_le hbB hB)
  have HZ : Hid (At6 W0 b (o + 6) z0 z1 z2 z3 z4 z5) := hz.keep hb0 (Nat.lt_of_lt_of_le hbB hB)
  obtain ⟨ca, ccp, rfl, _⟩ := hp.slice
  obtain ⟨ra, rc, rfl, _⟩ := hr.slice
  obtain ⟨wa, wc, rfl, _⟩ := hw.slice
  obtain ⟨ukk, ukc, ukl, ukh, uka, ukn, ukd, ukb, ukm, ukp, rfl, rfl, rfl, rfl, rfl, rfl⟩ := hqx.shape
  obtain ⟨zkk, zkc, zkl, zkh, zka, zkn, zkd, zkb, zkm, zkp, rfl, rfl, rfl, rfl, rfl, rfl⟩ := hqy.shape
  have xc0 := ab.t0.c
  have xc1 := ab.t1.c
  have xc2 := ab.a5.c
  have m0 := ab.a0.c
  have lN := ab.t0.lt
  have lN1 := ab.a5.lt
  have hnk1 : (0 : Int) ≤ 0 := by decide
  have hnk2 : (0 : Int) < (2 : Int) := by decide
  have HBB : Hid (b < B ∧ B ≤ w.heap.size) := ⟨hbB, hB⟩
  clear hp hr hw hu hqx kx ab hz hqy
  go_enter Tryz.func77, Tryz.ntmps77
  go_wp2_with fail
  refine k1.mono ?_
  rintro e w0 ⟨rfl, hw0⟩
  subst hw0
  clear k1 hW0
  go_wp2
  go_region_held3 (fun w' => w'.cell? ⟨w.heap.size, 0, none⟩ = some (.slice ca l.length ccp) ∧ w'.cell? ⟨w.heap.size, 1, none⟩ = some (.slice ra ts.length rc) ∧ w'.cell? ⟨w.heap.size + 1, 5, none⟩ = some (.slice (some ⟨b, o, none⟩) 2 cap) ∧ w'.cell? ⟨b, o, none⟩ = some (.int .i64 ukk) ∧ w'.cell? ⟨b, o + 1, none⟩ = some (.string ukc) ∧ w'.cell? ⟨b, o + 2, none⟩ = some (.int .i64 ukl) ∧ w'.cell? ⟨b, o + 3, none⟩ = some (.int .i64 ukh) ∧ w'.cell? ⟨b, o + 4, none⟩ = some (.slice uka ukn ukd) ∧ w'.cell? ⟨b, o + 5, none⟩ = some (.slice ukb ukm ukp)) (first | assumption | (simp [go_sem, *]; done)) ((go_at_call 77; refine k2.mono ?_; rintro x3 w1 hA; obtain ⟨x1a, x1c, rfl, x1I, x1b⟩ := hA; have w1z0 := (x1b.cell (p := ⟨w.heap.size, 0, none⟩) lN).trans xc0; have w1z1 := (x1b.cell (p := ⟨w.heap.size, 1, none⟩) lN).trans xc1; have w1z2 := (x1b.cell (p := ⟨w.heap.size + 1, 5, none⟩) lN1).trans xc2; have w1z3 := (x1b.cell (p := ⟨b, o, none⟩) lb).trans xc3; have w1z4 := (x1b.cell (p := ⟨b, o + 1, none⟩) lb).trans xc4; have w1z5 := (x1b.cell (p := ⟨b, o + 2, none⟩) lb).trans xc5; have w1z6 := (x1b.cell (p := ⟨b, o + 3, none⟩) lb).trans xc6; have w1z7 := (x1b.cell (p := ⟨b, o + 4, none⟩) lb).trans xc7; have w1z8 := (x1b.cell (p := ⟨b, o + 5, none⟩) lb).trans xc8))
  have hbw1 : Below w.heap.size w w1 := bt hb0.drew x1b
  have HB1 : Hid (Rb w1 w.heap.size (.slice ca l.length ccp) (.slice ra ts.length rc) 7 c lo hi (.slice wa wh.length wc) (.slice (some ⟨b, o, none⟩) 2 cap)) := (HAB.out.at (Below.refl _ _).drew).at x1b
  have HX1 : Hid (Ints w1 w1.heap.size w1.heap.size (.slice x1a xs.length x1c) xs) := x1I
  have m1 := HB1.out.a0.c
  clear k2 m0 xc0 xc1 xc2 xc3 xc4 xc5 xc6 xc7 xc8 w1z0 w1z1 w1z2 w1z3 w1z4 w1z5 w1z6 w1z7 w1z8 x1I
  obtain ⟨b1, o1, p1, rfl, _, hbb1, _, _, _, _⟩ := HX1.out.got (i := 0) hx1
  have HXC : Hid (∀ j u, (xs.map (Value.int .i64))[j]? = some u → w1.drew.cell? ((⟨b1, o1, none⟩ : Addr).add j) = some u) := ints_cells HX1.out
  obtain ⟨yc3, yc4, yc5, yc6, yc7, yc8⟩ := (HZ.out.keep (Below.refl _ _).drew lb).keep x1b lb
  have yc0 := HB1.out.t0.c
  have yc1 := HB1.out.t1.c
  have yc2 := HB1.out.a5.c
  have lN := HB1.out.t0.lt
  have lN1 := HB1.out.a5.lt
  have lb : b < w1.heap.size := Nat.lt_of_lt_of_le lb x1b.size
  have hnk1 : (0 : Int) ≤ 1 := by decide
  have hnk2 : (1 : Int) < (2 : Int) := by decide
  have l0 : 0 < w1.heap.size := Nat.lt_of_le_of_lt (Nat.zero_le _) lN
  obtain ⟨i0, hi0, hz0, hz1, hz2⟩ := info_parts info3
  clear x1b
  go_wp2
  go_region_held3 (fun w' => w'.cell? ⟨w.heap.size, 0, none⟩ = some (.slice ca l.length ccp) ∧ w'.cell? ⟨w.heap.size, 1, none⟩ = some (.slice ra ts.length rc) ∧ w'.cell? ⟨w.heap.size + 1, 5, none⟩ = some (.slice (some ⟨b, o, none⟩) 2 cap) ∧ w'.cell? ⟨b, o + 6, none⟩ = some (.int .i64 zkk) ∧ w'.cell? ⟨b, o + 6 + 1, none⟩ = some (.string zkc) ∧ w'.cell? ⟨b, o + 6 + 2, none⟩ = some (.int .i64 zkl) ∧ w'.cell? ⟨b, o + 6 + 3, none⟩ = some (.int .i64 zkh) ∧ w'.cell? ⟨b, o + 6 + 4, none⟩ = some (.slice zka zkn zkd) ∧ w'.cell? ⟨b, o + 6 + 5, none⟩ = some (.slice zkb zkm zkp)) (first | assumption | (simp [go_sem, *]; done)) (first | (refine step_append_lies _ rfl _ _ 65 rfl w1.heap.size 3 i0 (.int .i64 0) 1 8 Tryz.underlying65 hi0 hz0 hz1 hz2 rfl (by decide) (.slice (some ⟨g, 0, none⟩) (xs.length) cap') xs.length (xs.map (.int .i64)) rfl ?_ ⟨b2, o2, none⟩ ys.length y1c (ys.map (.int .i64)) rfl ?_ ?_ ?_ hy1 ?_ ?_ ?_ w5.heap.size ?_ ?_; (have := owns_below hown2 y1b; simpa using this); (simp); (exact ints_cells y1I); (exact ones_cell ys); (unfold maxLen; omega); (omega); (exact Nat.le_trans hb4.size y1b.size); (rfl); intro g3 cap3 w6 hown3 hgrow3 hat3 hlt3; have h0' : w6.cell? ⟨w.heap.size, 0, none⟩ = some (.slice ca l.length ccp) := hgrow3.cell f0 (fun e => absurd (owns_block hown2 _ e.symm) (Nat.not_le_of_lt lN)); have h1' : w6.cell? ⟨w.heap.size, 1, none⟩ = some (.slice ra ts.length rc) := hgrow3.cell f1 (fun e => absurd (owns_block hown2 _ e.symm) (Nat.not_le_of_lt lN)); have h2' : w6.cell? ⟨w.heap.size + 1, 5, none⟩ = some (.slice (some ⟨b, o, none⟩) 2 cap) := hgrow3.cell f2 (fun e => absurd (owns_block hown2 _ e.symm) (Nat.not_le_of_lt lN1)); have h3' : w6.cell? ⟨b, o + 6, none⟩ = some (.int .i64 zkk) := hgrow3.cell f3 (fun e => absurd (owns_block hown2 _ e.symm) (Nat.not_le_of_lt lb)); have h4' : w6.cell? ⟨b, o + 6 + 1, none⟩ = some (.string zkc) := hgrow3.cell f4 (fun e => absurd (owns_block hown2 _ e.symm) (Nat.not_le_of_lt lb)); have h5' : w6.cell? ⟨b, o + 6 + 2, none⟩ = some (.int .i64 zkl) := hgrow3.cell f5 (fun e => absurd (owns_block hown2 _ e.symm) (Nat.not_le_of_lt lb)); have h6' : w6.cell? ⟨b, o + 6 + 3, none⟩ = some (.int .i64 zkh) := hgrow3.cell f6 (fun e => absurd (owns_block hown2 _ e.symm) (Nat.not_le_of_lt lb)); have h7' : w6.cell? ⟨b, o + 6 + 4, none⟩ = some (.slice zka zkn zkd) := hgrow3.cell f7 (fun e => absurd (owns_block hown2 _ e.symm) (Nat.not_le_of_lt lb)); have h8' : w6.cell? ⟨b, o + 6 + 5, none⟩ = some (.slice zkb zkm zkp) := hgrow3.cell f8 (fun e => absurd (owns_block hown2 _ e.symm) (Nat.not_le_of_lt lb))) | (refine step_append_lies _ rfl _ _ 65 rfl w1.heap.size 3 i0 (.int .i64 0) 1 8 Tryz.underlying65 hi0 hz0 hz1 hz2 rfl (by decide) (.slice (some ⟨g, 0, none⟩) (0 + xs.length) cap') xs.length (xs.map (.int .i64)) rfl ?_ ⟨b2, o2, none⟩ ys.length y1c (ys.map (.int .i64)) rfl ?_ ?_ ?_ hy1 ?_ ?_ ?_ w5.heap.size ?_ ?_; (have := owns_below hown2 y1b; simpa using this); (simp); (exact ints_cells y1I); (exact ones_cell ys); (unfold maxLen; omega); (omega); (exact Nat.le_trans hb4.size y1b.size); (rfl); intro g3 cap3 w6 hown3 hgrow3 hat3 hlt3; have h0' : w6.cell? ⟨w.heap.size, 0, none⟩ = some (.slice ca l.length ccp) := hgrow3.cell f0 (fun e => absurd (owns_block hown2 _ e.symm) (Nat.not_le_of_lt lN)); have h1' : w6.cell? ⟨w.heap.size, 1, none⟩ = some (.slice ra ts.length rc) := hgrow3.cell f1 (fun e => absurd (owns_block hown2 _ e.symm) (Nat.not_le_of_lt lN)); have h2' : w6.cell? ⟨w.heap.size + 1, 5, none⟩ = some (.slice (some ⟨b, o, none⟩) 2 cap) := hgrow3.cell f2 (fun e => absurd (owns_block hown2 _ e.symm) (Nat.not_le_of_lt lN1)); have h3' : w6.cell? ⟨b, o + 6, none⟩ = some (.int .i64 zkk) := hgrow3.cell f3 (fun e => absurd (owns_block hown2 _ e.symm) (Nat.not_le_of_lt lb)); have h4' : w6.cell? ⟨b, o + 6 + 1, none⟩ = some (.string zkc) := hgrow3.cell f4 (fun e => absurd (owns_block hown2 _ e.symm) (Nat.not_le_of_lt lb)); have h5' : w6.cell? ⟨b, o + 6 + 2, none⟩ = some (.int .i64 zkl) := hgrow3.cell f5 (fun e => absurd (owns_block hown2 _ e.symm) (Nat.not_le_of_lt lb)); have h6' : w6.cell? ⟨b, o + 6 + 3, none⟩ = some (.int .i64 zkh) := hgrow3.cell f6 (fun e => absurd (owns_block hown2 _ e.symm) (Nat.not_le_of_lt lb)); have h7' : w6.cell? ⟨b, o + 6 + 4, none⟩ = some (.slice zka zkn zkd) := hgrow3.cell f7 (fun e => absurd (owns_block hown2 _ e.symm) (Nat.not_le_of_lt lb)); have h8' : w6.cell? ⟨b, o + 6 + 5, none⟩ = some (.slice zkb zkm zkp) := hgrow3.cell f8 (fun e => absurd (owns_block hown2 _ e.symm) (Nat.not_le_of_lt lb))) | (go_at_call 77; refine (ky w4 (bt hbw1 hb4)).mono ?_; rintro x3 w5 hA; obtain ⟨y1a, y1c, rfl, y1I, y1b⟩ := hA; obtain ⟨b2, o2, p2, rfl, _, _, _, _, _, _⟩ := y1I.got (i := 0) hy1; have f0 : w5.cell? ⟨w.heap.size, 0, none⟩ = some (.slice ca l.length ccp) := (y1b.cell (p := ⟨w.heap.size, 0, none⟩) lN4).trans e0; have f1 : w5.cell? ⟨w.heap.size, 1, none⟩ = some (.slice ra ts.length rc) := (y1b.cell (p := ⟨w.heap.size, 1, none⟩) lN4).trans e1; have f2 : w5.cell? ⟨w.heap.size + 1, 5, none⟩ = some (.slice (some ⟨b, o, none⟩) 2 cap) := (y1b.cell (p := ⟨w.heap.size + 1, 5, none⟩) lN14).trans e2; have f3 : w5.cell? ⟨b, o + 6, none⟩ = some (.int .i64 zkk) := (y1b.cell (p := ⟨b, o + 6, none⟩) lb4).trans e3; have f4 : w5.cell? ⟨b, o + 6 + 1, none⟩ = some (.string zkc) := (y1b.cell (p := ⟨b, o + 6 + 1, none⟩) lb4).trans e4; have f5 : w5.cell? ⟨b, o + 6 + 2, none⟩ = some (.int .i64 zkl) := (y1b.cell (p := ⟨b, o + 6 + 2, none⟩) lb4).trans e5; have f6 : w5.cell? ⟨b, o + 6 + 3, none⟩ = some (.int .i64 zkh) := (y1b.cell (p := ⟨b, o + 6 + 3, none⟩) lb4).trans e6; have f7 : w5.cell? ⟨b, o + 6 + 4, none⟩ = some (.slice zka zkn zkd) := (y1b.cell (p := ⟨b, o + 6 + 4, none⟩) lb4).trans e7; have f8 : w5.cell? ⟨b, o + 6 + 5, none⟩ = some (.slice zkb zkm zkp) := (y1b.cell (p := ⟨b, o + 6 + 5, none⟩) lb4).trans e8) | (refine step_append_lies _ rfl _ _ 65 rfl w1.heap.size 3 i0 (.int .i64 0) 1 8 Tryz.underlying65 hi0 hz0 hz1 hz2 rfl (by decide) (.slice none 0 0) 0 [] rfl ⟨rfl, .inl ⟨rfl, rfl⟩⟩ ⟨b1, o1, none⟩ xs.length x1c (xs.map (.int .i64)) rfl ?_ ?_ ?_ hx1 ?_ ?_ ?_ w1.heap.size ?_ ?_; (simp); (exact HXC.out); (exact ones_cell xs); (unfold maxLen; omega); (omega); (exact Nat.le_refl _); (rfl); intro g cap' w4 hown hgrow hat hlt; have hown2 : w4.ownsRow w1.heap.size 3 1 (.slice (some ⟨g, 0, none⟩) xs.length cap') xs.length (xs.map (.int .i64)) := (by simpa using hown); have hb4 : Below w1.heap.size w1 w4 := ((Below.refl w1.heap.size w1).drew).trans (gro_bel (lo := w1.heap.size) hgrow (fun g' e => by simp [Value.ownBlock] at e) (Nat.le_refl _) (Nat.le_refl _)); have lN4 := Nat.lt_of_lt_of_le lN hb4.size; have lN14 := Nat.lt_of_lt_of_le lN1 hb4.size; have lb4 := Nat.lt_of_lt_of_le lb hb4.size; have e0 : w4.cell? ⟨w.heap.size, 0, none⟩ = some (.slice ca l.length ccp) := hgrow.cell (show w1.drew.cell? ⟨w.heap.size, 0, none⟩ = _ from yc0) (fun e => by simp [Value.ownBlock] at e); have e1 : w4.cell? ⟨w.heap.size, 1, none⟩ = some (.slice ra ts.length rc) := hgrow.cell (show w1.drew.cell? ⟨w.heap.size, 1, none⟩ = _ from yc1) (fun e => by simp [Value.ownBlock] at e); have e2 : w4.cell? ⟨w.heap.size + 1, 5, none⟩ = some (.slice (some ⟨b, o, none⟩) 2 cap) := hgrow.cell (show w1.drew.cell? ⟨w.heap.size + 1, 5, none⟩ = _ from yc2) (fun e => by simp [Value.ownBlock] at e); have e3 : w4.cell? ⟨b, o + 6, none⟩ = some (.int .i64 zkk) := hgrow.cell (show w1.drew.cell? ⟨b, o + 6, none⟩ = _ from yc3) (fun e => by simp [Value.ownBlock] at e); have e4 : w4.cell? ⟨b, o + 6 + 1, none⟩ = some (.string zkc) := hgrow.cell (show w1.drew.cell? ⟨b, o + 6 + 1, none⟩ = _ from yc4) (fun e => by simp [Value.ownBlock] at e); have e5 : w4.cell? ⟨b, o + 6 + 2, none⟩ = some (.int .i64 zkl) := hgrow.cell (show w1.drew.cell? ⟨b, o + 6 + 2, none⟩ = _ from yc5) (fun e => by simp [Value.ownBlock] at e); have e6 : w4.cell? ⟨b, o + 6 + 3, none⟩ = some (.int .i64 zkh) := hgrow.cell (show w1.drew.cell? ⟨b, o + 6 + 3, none⟩ = _ from yc6) (fun e => by simp [Value.ownBlock] at e); have e7 : w4.cell? ⟨b, o + 6 + 4, none⟩ = some (.slice zka zkn zkd) := hgrow.cell (show w1.drew.cell? ⟨b, o + 6 + 4, none⟩ = _ from yc7) (fun e => by simp [Value.ownBlock] at e); have e8 : w4.cell? ⟨b, o + 6 + 5, none⟩ = some (.slice zkb zkm zkp) := hgrow.cell (show w1.drew.cell? ⟨b, o + 6 + 5, none⟩ = _ from yc8) (fun e => by simp [Value.ownBlock] at e)))
  have hbw6 : Below w.heap.size w w6 := (bt (bt hbw1 hb4) y1b).trans ((gro_bel (lo := w1.heap.size) hgrow3 (owns_block hown2) (Nat.le_refl _) (Nat.le_trans hb4.size y1b.size)).mono hbw1.size)
  have HF : Hid (w6.ownsRow w1.heap.size 3 1 (.slice (some ⟨g3, 0, none⟩) (xs.length + ys.length) cap3) (xs.length + ys.length) ((xs ++ ys).map (.int .i64))) := by show World.ownsRow _ _ _ _ _ _ _; rw [List.map_append]; exact hown3
  clear hown hgrow hat hlt hown3 hgrow3 hat3 hlt3
  go_wp2
  go_ret
  exact ⟨some ⟨g3, 0, none⟩, cap3, by rw [List.length_append]; rfl, by rw [List.length_append]; exact owns_ints (by simp) (by simp; omega) HF.out l0, hbw6⟩

end Go.Proofs.YtlndlpjadajelaaGreat.K
