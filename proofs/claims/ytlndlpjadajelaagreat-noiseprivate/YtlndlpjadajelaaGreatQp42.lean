import Derived.Test.YtlndlpjadajelaaGreatQp40
import Derived.Deep.AppendLies
import Derived.Deep.RegionHeld3
import Derived.Deep.RegionLaw
import Derived.Test.YtlndlpjadajelaaGreatQp38
namespace Go.Proofs.YtlndlpjadajelaaGreat.K
open Go.RowKit Go.Proofs.YtlndlpjadajelaaGreat.K.Ds

set_option maxHeartbeats 4000000 in
set_option maxRecDepth 100000 in
theorem ran8_any (c : ByteArray) (lo hi : Int) (cv rv wv : Value) (b o cap : Nat) (w : World) (B : Nat) (l : List Col) (ts : List Rw) (wh : List Tst) (hB : B ≤ w.heap.size) (hp : Cols w B cv l) (hr : Rws w B rv ts) (hw : Tss w B wv wh) (hbB : b < B) (x : Qu) (u0 u1 u2 u3 u4 u5 : Value) (hu : At6 w b o u0 u1 u2 u3 u4 u5) (hqx : Qm w B x u0 u1 u2 u3 u4 u5) (xs : List Int) (kx : ∀ W, Below w.heap.size w W → Calls Tryz.prog 77 #[.agg #[cv, rv], .agg #[u0, u1, u2, u3, u4, u5]] W (AnsR W xs)) (hbx : Bdd 1099511627776 xs) (hxl : xs.length ≤ 4096) :
    Calls Tryz.prog 77 #[.agg #[cv, rv], .agg #[.int .i64 8, .string c, .int .i64 lo, .int .i64 hi, wv, .slice (some ⟨b, o, none⟩) 1 cap]] w (AnsR w ([smL xs])) := by
  have ab := Rb.new w cv rv 8 c lo hi wv (.slice (some ⟨b, o, none⟩) 1 cap)
  have hb0 := b2a w (.cells #[cv, rv] 27) (.cells #[.int .i64 8, .string c, .int .i64 lo, .int .i64 hi, wv, .slice (some ⟨b, o, none⟩) 1 cap] 31)
  obtain ⟨W0, hW0⟩ : ∃ W0, ((w.alloc (.cells #[cv, rv] 27)).alloc (.cells #[.int .i64 8, .string c, .int .i64 lo, .int .i64 hi, wv, .slice (some ⟨b, o, none⟩) 1 cap] 31)) = W0 := ⟨_, rfl⟩
  rw [hW0] at ab hb0
  have HW0 : Hid (((w.alloc (.cells #[cv, rv] 27)).alloc (.cells #[.int .i64 8, .string c, .int .i64 lo, .int .i64 hi, wv, .slice (some ⟨b, o, none⟩) 1 cap] 31)) = W0) := hW0
  have HAB : Hid (Rb W0 w.heap.size cv rv 8 c lo hi wv (.slice (some ⟨b, o, none⟩) 1 cap)) := ab
  have k1 := rkids_any 8 W0 1 rfl
  have k2 := kx W0.drew hb0.drew
  have lb : b < W0.heap.size := Nat.lt_of_lt_of_le hbB (Nat.le_trans hB hb0.size)
  obtain ⟨xc3, xc4, xc5, xc6, xc7, xc8⟩ := hu.keep hb0 (Nat.lt_of_lt_of_le hbB hB)
  obtain ⟨ca, ccp, rfl, _⟩ := hp.slice
  obtain ⟨ra, rc, rfl, _⟩ := hr.slice
  obtain ⟨wa, wc, rfl, _⟩ := hw.slice
  obtain ⟨ukk, ukc, ukl, ukh, uka, ukn, ukd, ukb, ukm, ukp, rfl, rfl, rfl, rfl, rfl, rfl⟩ := hqx.shape
  have xc0 := ab.t0.c
  have xc1 := ab.t1.c
  have xc2 := ab.a5.c
  have m0 := ab.a0.c
  have lN := ab.t0.lt
  have lN1 := ab.a5.lt
  have hnk1 : (0 : Int) ≤ 0 := by decide
  have hnk2 : (0 : Int) < (1 : Int) := by decide
  have HBB : Hid (b < B ∧ B ≤ w.heap.size) := ⟨hbB, hB⟩
  clear hp hr hw hu hqx kx ab
  obtain ⟨R, hR⟩ : ∃ R, smL xs = R := ⟨_, rfl⟩
  rw [hR]
  have HRR : Hid (smL xs = R) := hR
  clear hR
  go_enter Tryz.func77, Tryz.ntmps77
  go_wp2_with fail
  refine k1.mono ?_
  rintro e w0 ⟨rfl, hw0⟩
  subst hw0
  clear k1 hW0
  go_wp2
  go_region_held3 (fun w' => w'.cell? ⟨w.heap.size, 0, none⟩ = some (.slice ca l.length ccp) ∧ w'.cell? ⟨w.heap.size, 1, none⟩ = some (.slice ra ts.length rc) ∧ w'.cell? ⟨w.heap.size + 1, 5, none⟩ = some (.slice (some ⟨b, o, none⟩) 1 cap) ∧ w'.cell? ⟨b, o, none⟩ = some (.int .i64 ukk) ∧ w'.cell? ⟨b, o + 1, none⟩ = some (.string ukc) ∧ w'.cell? ⟨b, o + 2, none⟩ = some (.int .i64 ukl) ∧ w'.cell? ⟨b, o + 3, none⟩ = some (.int .i64 ukh) ∧ w'.cell? ⟨b, o + 4, none⟩ = some (.slice uka ukn ukd) ∧ w'.cell? ⟨b, o + 5, none⟩ = some (.slice ukb ukm ukp)) (first | assumption | (simp [go_sem, *]; done)) ((go_at_call 77; refine k2.mono ?_; rintro x3 w1 hA; obtain ⟨x1a, x1c, rfl, x1I, x1b⟩ := hA; have w1z0 := (x1b.cell (p := ⟨w.heap.size, 0, none⟩) lN).trans xc0; have w1z1 := (x1b.cell (p := ⟨w.heap.size, 1, none⟩) lN).trans xc1; have w1z2 := (x1b.cell (p := ⟨w.heap.size + 1, 5, none⟩) lN1).trans xc2; have w1z3 := (x1b.cell (p := ⟨b, o, none⟩) lb).trans xc3; have w1z4 := (x1b.cell (p := ⟨b, o + 1, none⟩) lb).trans xc4; have w1z5 := (x1b.cell (p := ⟨b, o + 2, none⟩) lb).trans xc5; have w1z6 := (x1b.cell (p := ⟨b, o + 3, none⟩) lb).trans xc6; have w1z7 := (x1b.cell (p := ⟨b, o + 4, none⟩) lb).trans xc7; have w1z8 := (x1b.cell (p := ⟨b, o + 5, none⟩) lb).trans xc8))
  have hbw1 : Below w.heap.size w w1 := bt hb0.drew x1b
  have HB1 : Hid (Rb w1 w.heap.size (.slice ca l.length ccp) (.slice ra ts.length rc) 8 c lo hi (.slice wa wh.length wc) (.slice (some ⟨b, o, none⟩) 1 cap)) := (HAB.out.at (Below.refl _ _).drew).at x1b
  have HX1 : Hid (Ints w1 w1.heap.size w1.heap.size (.slice x1a xs.length x1c) xs) := x1I
  have m1 := HB1.out.a0.c
  clear k2 m0 xc0 xc1 xc2 xc3 xc4 xc5 xc6 xc7 xc8 w1z0 w1z1 w1z2 w1z3 w1z4 w1z5 w1z6 w1z7 w1z8 x1I
  have l0 : 0 < w1.heap.size := Nat.lt_of_le_of_lt (Nat.zero_le _) HB1.out.t0.lt
  go_wp2
  go_loopw [15, 196] (fun nv s' wr => ∃ (i : Nat) (n : Int), nv = .int .i64 n ∧ s' = .int .i64 (i : Int) ∧ i ≤ xs.length ∧ Hid (n + smL (xs.drop i) = R) ∧ Hid (-(i * 1099511627776) ≤ n ∧ n ≤ i * 1099511627776) ∧ Below w1.heap.size w1 wr) (fun _ s' _ => xs.length - (intOf s').toNat)
  case atStart => exact ⟨0, 0, rfl, rfl, Nat.zero_le _, by show _ = _; rw [List.drop_zero, Int.zero_add]; exact HRR.out, by show _ ∧ _; omega, Below.refl _ _⟩
  case round =>
    obtain ⟨i, n, rfl, rfl, hi, HN, HNB, hbl⟩ := hrel
    have hsl := hbl.size
    by_cases h1 : i < xs.length
    · obtain ⟨b1, o1, p, rfl, _, hb1, _, hg1, _, hc1⟩ := (HX1.out.keep hbl).got h1
      have bp := hbx.get hg1
      obtain ⟨n1, n2⟩ := HNB.out
      have HN2 : Hid (n + p + smL (xs.drop (i + 1)) = R) := by
        have := HN.out
        rw [List.drop_eq_getElem_cons (List.getElem?_eq_some_iff.1 hg1).1, (List.getElem?_eq_some_iff.1 hg1).2] at this
        simp only [smL] at this
        show _ = _; omega
      have HNB2 : Hid (-((i + 1 : Nat) * 1099511627776) ≤ n + p ∧ n + p ≤ (i + 1 : Nat) * 1099511627776) := by show _ ∧ _; omega
      have hw1 : IntKind.i64.wrap (n + p) = n + p := by rw [IntKind.wrap_i64]; have := wrap_id (a := n + p) (by omega); unfold wrap64 at this; omega
      have hj1 : (0 : Int) ≤ (i : Int) := by omega
      have hj2 : (i : Int) < (xs.length : Int) := by omega
      clear hg1 n1 n2
      go_wp2
      go_roundw
      case rel => exact ⟨i + 1, n + p, rfl, by go_num, h1, HN2, HNB2, hbl⟩
      case measure => simp [intOf]; omega
    · obtain rfl : n = R := by have := HN.out; rw [List.drop_of_length_le (by omega)] at this; simpa [smL] using this
      have HF : Hid (Arw (wr.alloc (.cells #[.int .i64 n] 3)) 0 wr.heap.size 1 [n]) := Arw.lit _ _ _ (Nat.zero_le _)
      go_wp2
      go_ret
      exact ⟨some ⟨wr.heap.size, 0, none⟩, 1, rfl, HF.out.ints _ (Nat.ne_of_lt HF.out.lt.2), bt hbw1 (bal hbl _)⟩

set_option maxHeartbeats 4000000 in
set_option maxRecDepth 100000 in
theorem ran9_any (c : ByteArray) (lo hi : Int) (cv rv wv : Value) (b o cap : Nat) (w : World) (B : Nat) (l : List Col) (ts : List Rw) (wh : List Tst) (hB : B ≤ w.heap.size) (hp : Cols w B cv l) (hr : Rws w B rv ts) (hw : Tss w B wv wh) (hbB : b < B) (x : Qu) (u0 u1 u2 u3 u4 u5 : Value) (hu : At6 w b o u0 u1 u2 u3 u4 u5) (hqx : Qm w B x u0 u1 u2 u3 u4 u5) (xs : List Int) (kx : ∀ W, Below w.heap.size w W → Calls Tryz.prog 77 #[.agg #[cv, rv], .agg #[u0, u1, u2, u3, u4, u5]] W (AnsR W xs)) (j : Nat) (z : Int) (hlj : lo = (j : Int)) (hj : xs[j]? = some z) :
    Calls Tryz.prog 77 #[.agg #[cv, rv], .agg #[.int .i64 9, .string c, .int .i64 lo, .int .i64 hi, wv, .slice (some ⟨b, o, none⟩) 1 cap]] w (AnsR w ([z])) := by
  have ab := Rb.new w cv rv 9 c lo hi wv (.slice (some ⟨b, o, none⟩) 1 cap)
  have hb0 := b2a w (.cells #[cv, rv] 27) (.cells #[.int .i64 9, .string c, .int .i64 lo, .int .i64 hi, wv, .slice (some ⟨b, o, none⟩) 1 cap] 31)
  obtain ⟨W0, hW0⟩ : ∃ W0, ((w.alloc (.cells #[cv, rv] 27)).alloc (.cells #[.int .i64 9, .string c, .int .i64 lo, .int .i64 hi, wv, .slice (some ⟨b, o, none⟩) 1 cap] 31)) = W0 := ⟨_, rfl⟩
  rw [hW0] at ab hb0
  have HW0 : Hid (((w.alloc (.cells #[cv, rv] 27)).alloc (.cells #[.int .i64 9, .string c, .int .i64 lo, .int .i64 hi, wv, .slice (some ⟨b, o, none⟩) 1 cap] 31)) = W0) := hW0
  have HAB : Hid (Rb W0 w.heap.size cv rv 9 c lo hi wv (.slice (some ⟨b, o, none⟩) 1 cap)) := ab
  have k1 := rkids_any 9 W0 1 rfl
  have k2 := kx W0.drew hb0.drew
  have lb : b < W0.heap.size := Nat.lt_of_lt_of_le hbB (Nat.le_trans hB hb0.size)
  obtain ⟨xc3, xc4, xc5, xc6, xc7, xc8⟩ := hu.keep hb0 (Nat.lt_of_lt_of_le hbB hB)
  obtain ⟨ca, ccp, rfl, _⟩ := hp.slice
  obtain ⟨ra, rc, rfl, _⟩ := hr.slice
  obtain ⟨wa, wc, rfl, _⟩ := hw.slice
  obtain ⟨ukk, ukc, ukl, ukh, uka, ukn, ukd, ukb, ukm, ukp, rfl, rfl, rfl, rfl, rfl, rfl⟩ := hqx.shape
  have xc0 := ab.t0.c
  have xc1 := ab.t1.c
  have xc2 := ab.a5.c
  have m0 := ab.a0.c
  have lN := ab.t0.lt
  have lN1 := ab.a5.lt
  have hnk1 : (0 : Int) ≤ 0 := by decide
  have hnk2 : (0 : Int) < (1 : Int) := by decide
  have HBB : Hid (b < B ∧ B ≤ w.heap.size) := ⟨hbB, hB⟩
  clear hp hr hw hu hqx kx ab
  have HJ : Hid (xs[j]? = some z) := hj
  have hjl : j < xs.length := (List.getElem?_eq_some_iff.1 hj).1
  have hj1 : (0 : Int) ≤ (j : Int) := by omega
  have hj2 : (j : Int) < (xs.length : Int) := by omega
  subst hlj
  clear hj
  go_enter Tryz.func77, Tryz.ntmps77
  go_wp2_with fail
  refine k1.mono ?_
  rintro e w0 ⟨rfl, hw0⟩
  subst hw0
  clear k1 hW0
  go_wp2
  go_region_held3 (fun w' => w'.cell? ⟨w.heap.size, 0, none⟩ = some (.slice ca l.length ccp) ∧ w'.cell? ⟨w.heap.size, 1, none⟩ = some (.slice ra ts.length rc) ∧ w'.cell? ⟨w.heap.size + 1, 5, none⟩ = some (.slice (some ⟨b, o, none⟩) 1 cap) ∧ w'.cell? ⟨b, o, none⟩ = some (.int .i64 ukk) ∧ w'.cell? ⟨b, o + 1, none⟩ = some (.string ukc) ∧ w'.cell? ⟨b, o + 2, none⟩ = some (.int .i64 ukl) ∧ w'.cell? ⟨b, o + 3, none⟩ = some (.int .i64 ukh) ∧ w'.cell? ⟨b, o + 4, none⟩ = some (.slice uka ukn ukd) ∧ w'.cell? ⟨b, o + 5, none⟩ = some (.slice ukb ukm ukp)) (first | assumption | (simp [go_sem, *]; done)) ((go_at_call 77; refine k2.mono ?_; rintro x3 w1 hA; obtain ⟨x1a, x1c, rfl, x1I, x1b⟩ := hA; have w1z0 := (x1b.cell (p := ⟨w.heap.size, 0, none⟩) lN).trans xc0; have w1z1 := (x1b.cell (p := ⟨w.heap.size, 1, none⟩) lN).trans xc1; have w1z2 := (x1b.cell (p := ⟨w.heap.size + 1, 5, none⟩) lN1).trans xc2; have w1z3 := (x1b.cell (p := ⟨b, o, none⟩) lb).trans xc3; have w1z4 := (x1b.cell (p := ⟨b, o + 1, none⟩) lb).trans xc4; have w1z5 := (x1b.cell (p := ⟨b, o + 2, none⟩) lb).trans xc5; have w1z6 := (x1b.cell (p := ⟨b, o + 3, none⟩) lb).trans xc6; have w1z7 := (x1b.cell (p := ⟨b, o + 4, none⟩) lb).trans xc7; have w1z8 := (x1b.cell (p := ⟨b, o + 5, none⟩) lb).trans xc8))
  have hbw1 : Below w.heap.size w w1 := bt hb0.drew x1b
  have HB1 : Hid (Rb w1 w.heap.size (.slice ca l.length ccp) (.slice ra ts.length rc) 9 c (j : Int) hi (.slice wa wh.length wc) (.slice (some ⟨b, o, none⟩) 1 cap)) := (HAB.out.at (Below.refl _ _).drew).at x1b
  have HX1 : Hid (Ints w1 w1.heap.size w1.heap.size (.slice x1a xs.length x1c) xs) := x1I
  have m1 := HB1.out.a0.c
  clear k2 m0 xc0 xc1 xc2 xc3 xc4 xc5 xc6 xc7 xc8 w1z0 w1z1 w1z2 w1z3 w1z4 w1z5 w1z6 w1z7 w1z8 x1I
  have m2 := HB1.out.a2.c
  obtain ⟨b1, o1, p, rfl, _, hb1, _, hg1, _, hc1⟩ := HX1.out.got hjl
  obtain rfl : p = z := by have := HJ.out; rw [hg1] at this; exact Option.some.inj this
  clear hg1
  go_wp2
  go_ret
  exact ⟨some ⟨w1.heap.size, 0, none⟩, 1, rfl, (Arw.lit _ 0 _ (Nat.zero_le _)).ints _ (by simp), bt hbw1 (ba _ _)⟩

end Go.Proofs.YtlndlpjadajelaaGreat.K

namespace Go.Proofs.YtlndlpjadajelaaGreat.K
open Go.RowKit Go.Proofs.YtlndlpjadajelaaGreat.K.Ds

theorem grown_ans {w W w1 w2 : World} {xs : List Int} {g c : Nat} (hW : Below w.heap.size w W) (hb1 : Below W.heap.size W w1) (hg : W.heap.size ≤ g) (hgr : w1.grownBy w2 (some g)) (hA : Arw w2 W.heap.size g c xs) : AnsP w xs (.returned (.slice (some ⟨g, 0, none⟩) xs.length c)) w2 :=
  ⟨g, c, rfl, hA.mono hW.size, (bt hW hb1).trans (below_gb hgr (Nat.le_trans hW.size hg) (Nat.le_trans hW.size hb1.size))⟩

set_option maxHeartbeats 2000000 in
set_option maxRecDepth 100000 in
theorem ans4_any (c : ByteArray) (lo hi : Int) (cv rv wv : Value) (b o cap : Nat) (w : World) (B : Nat) (l : List Col) (ts : List Rw) (wh : List Tst) (hB : B ≤ w.heap.size) (hp : Cols w B cv l) (hr : Rws w B rv ts) (hw : Tss w B wv wh) (hbB : b < B) (x : Qu) (u0 u1 u2 u3 u4 u5 : Value) (hu : At6 w b o u0 u1 u2 u3 u4 u5) (hqx : Qm w B x u0 u1 u2 u3 u4 u5) (xs : List Int) (kx : ∀ W, Below w.heap.size w W → Calls Tryz.prog 73 #[.agg #[cv, rv], .agg #[u0, u1, u2, u3, u4, u5]] W (AnsP W xs)) (y : Qu) (z0 z1 z2 z3 z4 z5 : Value) (hz : At6 w b (o + 6) z0 z1 z2 z3 z4 z5) (hqy : Qm w B y z0 z1 z2 z3 z4 z5) (ys : List Int) (ky : ∀ W, Below w.heap.size w W → Calls Tryz.prog 73 #[.agg #[cv, rv], .agg #[z0, z1, z2, z3, z4, z5]] W (AnsP W ys)) (hbx : Bdd 1099511627776 xs) (hby : Bdd 1099511627776 ys) (hl : xs.length = ys.length) :
    Calls Tryz.prog 73 #[.agg #[cv, rv], .agg #[.int .i64 4, .string c, .int .i64 lo, .int .i64 hi, wv, .slice (some ⟨b, o, none⟩) 2 cap]] w (AnsP w (List.zipWith (· + ·) xs ys)) := by
  have ab := Ab.new w cv rv 4 c lo hi wv (.slice (some ⟨b, o, none⟩) 2 cap)
  have hb0 := b3a w (.cells #[cv, rv] 27) (.cells #[.int .i64 4, .string c, .int .i64 lo, .int .i64 hi, wv, .slice (some ⟨b, o, none⟩) 2 cap] 31) (.cells #[.func (.func 126) #[] #[.pointer (some ⟨w.heap.size + 1, 0, none⟩)]] 162)
  obtain ⟨W0, hW0⟩ : ∃ W0, (((w.alloc (.cells #[cv, rv] 27)).alloc (.cells #[.int .i64 4, .string c, .int .i64 lo, .int .i64 hi, wv, .slice (some ⟨b, o, none⟩) 2 cap] 31)).alloc (.cells #[.func (.func 126) #[] #[.pointer (some ⟨w.heap.size + 1, 0, none⟩)]] 162)) = W0 := ⟨_, rfl⟩
  rw [hW0] at ab hb0
  have HW0 : Hid ((((w.alloc (.cells #[cv, rv] 27)).alloc (.cells #[.int .i64 4, .string c, .int .i64 lo, .int .i64 hi, wv, .slice (some ⟨b, o, none⟩) 2 cap] 31)).alloc (.cells #[.func (.func 126) #[] #[.pointer (some ⟨w.heap.size + 1, 0, none⟩)]] 162)) = W0) := hW0
  have k1 := kid0_any w.heap.size (w.heap.size + 1) cv rv b o 2 cap (by omega) xs W0 ab.t0.c ab.t1.c ab.a5.c B x u0 u1 u2 u3 u4 u5 (hu.keep hb0 (Nat.lt_of_lt_of_le hbB hB)) (hqx.at hB hb0) l ts (hp.at hB hb0) (hr.at hB hb0) (kx _ hb0.drew)
  have HK : ∀ w1, Below W0.heap.size W0 w1 → Calls Tryz.prog 127 #[.int .i64 1, .pointer (some ⟨w.heap.size, 0, none⟩), .pointer (some ⟨w.heap.size + 1, 0, none⟩)] w1 (AnsP w1 ys) := fun w1 hb1 =>
    kid1_any w.heap.size (w.heap.size + 1) cv rv b o 2 cap (by omega) ys w1 (ab.at hb1).t0.c (ab.at hb1).t1.c (ab.at hb1).a5.c B y z0 z1 z2 z3 z4 z5 (hz.keep (bt hb0 hb1) (Nat.lt_of_lt_of_le hbB hB)) (hqy.at hB (bt hb0 hb1)) l ts (hp.at hB (bt hb0 hb1)) (hr.at hB (bt hb0 hb1)) (ky _ (bt hb0 hb1).drew)
  have HAB : Hid (Ab W0 w.heap.size cv rv 4 c lo hi wv (.slice (some ⟨b, o, none⟩) 2 cap)) := ab
  obtain ⟨ca, ccp, rfl, _⟩ := hp.slice
  obtain ⟨ra, rc, rfl, _⟩ := hr.slice
  obtain ⟨wa, wc, rfl, _⟩ := hw.slice
  have hmf := hmf
  have m0 := HAB.out.a0.c
  clear hp hr hw hu hqx kx ab hz hqy ky
  go_enter Tryz.func73, Tryz.ntmps73
  have HL : Hid (xs.length = ys.length) := hl
  clear hl
  go_wp2_with fail
  refine k1.mono ?_
  rintro e w1 ⟨g1, c1, rfl, hA1, hb1⟩
  clear k1
  have hg1 := hA1.lt
  have k2 := HK w1 hb1
  clear HK
  go_wp2_with fail
  refine k2.mono ?_
  rintro e w2 ⟨g2, c2, rfl, hA2, hb2⟩
  clear k2
  have hg2 := hA2.lt
  have hA12 := hA1.at hb2
  have hbw := bt hb1 hb2
  have k3 := pairP_any W0.heap.size g1 c1 w2.heap.size _ xs ys w2 hA12 (hA2.ints g1 (by omega)) HL.out hbx hby
  go_wp2_with fail
  refine k3.mono ?_
  rintro e w3 ⟨rfl, hA3, hgr⟩
  clear k3
  go_wp2
  go_ret
  have hle : (List.zipWith (· + ·) xs ys).length = xs.length := by rw [List.length_zipWith]; have := HL.out; omega
  have := grown_ans hb0 hbw hg1.1 hgr hA3
  rw [hle] at this
  exact this
set_option maxHeartbeats 2000000 in
set_option maxRecDepth 100000 in
theorem ans5_any (c : ByteArray) (lo hi : Int) (cv rv wv : Value) (b o cap : Nat) (w : World) (B : Nat) (l : List Col) (ts : List Rw) (wh : List Tst) (hB : B ≤ w.heap.size) (hp : Cols w B cv l) (hr : Rws w B rv ts) (hw : Tss w B wv wh) (hbB : b < B) (x : Qu) (u0 u1 u2 u3 u4 u5 : Value) (hu : At6 w b o u0 u1 u2 u3 u4 u5) (hqx : Qm w B x u0 u1 u2 u3 u4 u5) (xs : List Int) (kx : ∀ W, Below w.heap.size w W → Calls Tryz.prog 73 #[.agg #[cv, rv], .agg #[u0, u1, u2, u3, u4, u5]] W (AnsP W xs)) (y : Qu) (z0 z1 z2 z3 z4 z5 : Value) (hz : At6 w b (o + 6) z0 z1 z2 z3 z4 z5) (hqy : Qm w B y z0 z1 z2 z3 z4 z5) (ys : List Int) (ky : ∀ W, Below w.heap.size w W → Calls Tryz.prog 73 #[.agg #[cv, rv], .agg #[z0, z1, z2, z3, z4, z5]] W (AnsP W ys)) (hbx : Bdd 1099511627776 xs) (hby : Bdd 1099511627776 ys) (hl : xs.length = ys.length) :
    Calls Tryz.prog 73 #[.agg #[cv, rv], .agg #[.int .i64 5, .string c, .int .i64 lo, .int .i64 hi, wv, .slice (some ⟨b, o, none⟩) 2 cap]] w (AnsP w (List.zipWith (· - ·) xs ys)) := by
  have ab := Ab.new w cv rv 5 c lo hi wv (.slice (some ⟨b, o, none⟩) 2 cap)
  have hb0 := b3a w (.cells #[cv, rv] 27) (.cells #[.int .i64 5, .string c, .int .i64 lo, .int .i64 hi, wv, .slice (some ⟨b, o, none⟩) 2 cap] 31) (.cells #[.func (.func 126) #[] #[.pointer (some ⟨w.heap.size + 1, 0, none⟩)]] 162)
  obtain ⟨W0, hW0⟩ : ∃ W0, (((w.alloc (.cells #[cv, rv] 27)).alloc (.cells #[.int .i64 5, .string c, .int .i64 lo, .int .i64 hi, wv, .slice (some ⟨b, o, none⟩) 2 cap] 31)).alloc (.cells #[.func (.func 126) #[] #[.pointer (some ⟨w.heap.size + 1, 0, none⟩)]] 162)) = W0 := ⟨_, rfl⟩
  rw [hW0] at ab hb0
  have HW0 : Hid ((((w.alloc (.cells #[cv, rv] 27)).alloc (.cells #[.int .i64 5, .string c, .int .i64 lo, .int .i64 hi, wv, .slice (some ⟨b, o, none⟩) 2 cap] 31)).alloc (.cells #[.func (.func 126) #[] #[.pointer (some ⟨w.heap.size + 1, 0, none⟩)]] 162)) = W0) := hW0
  have k1 := kid0_any w.heap.size (w.heap.size + 1) cv rv b o 2 cap (by omega) xs W0 ab.t0.c ab.t1.c ab.a5.c B x u0 u1 u2 u3 u4 u5 (hu.keep hb0 (Nat.lt_of_lt_of_le hbB hB)) (hqx.at hB hb0) l ts (hp.at hB hb0) (hr.at hB hb0) (kx _ hb0.drew)
  have HK : ∀ w1, Below W0.heap.size W0 w1 → Calls Tryz.prog 127 #[.int .i64 1, .pointer (some ⟨w.heap.size, 0, none⟩), .pointer (some ⟨w.heap.size + 1, 0, none⟩)] w1 (AnsP w1 ys) := fun w1 hb1 =>
    kid1_any w.heap.size (w.heap.size + 1) cv rv b o 2 cap (by omega) ys w1 (ab.at hb1).t0.c (ab.at hb1).t1.c (ab.at hb1).a5.c B y z0 z1 z2 z3 z4 z5 (hz.keep (bt hb0 hb1) (Nat.lt_of_lt_of_le hbB hB)) (hqy.at hB (bt hb0 hb1)) l ts (hp.at hB (bt hb0 hb1)) (hr.at hB (bt hb0 hb1)) (ky _ (bt hb0 hb1).drew)
  have HAB : Hid (Ab W0 w.heap.size cv rv 5 c lo hi wv (.slice (some ⟨b, o, none⟩) 2 cap)) := ab
  obtain ⟨ca, ccp, rfl, _⟩ := hp.slice
  obtain ⟨ra, rc, rfl, _⟩ := hr.slice
  obtain ⟨wa, wc, rfl, _⟩ := hw.slice
  have hmf := hmf
  have m0 := HAB.out.a0.c
  clear hp hr hw hu hqx kx ab hz hqy ky
  go_enter Tryz.func73, Tryz.ntmps73
  have HL : Hid (xs.length = ys.length) := hl
  clear hl
  go_wp2_with fail
  refine k1.mono ?_
  rintro e w1 ⟨g1, c1, rfl, hA1, hb1⟩
  clear k1
  have hg1 := hA1.lt
  have k2 := HK w1 hb1
  clear HK
  go_wp2_with fail
  refine k2.mono ?_
  rintro e w2 ⟨g2, c2, rfl, hA2, hb2⟩
  clear k2
  have hg2 := hA2.lt
  have hA12 := hA1.at hb2
  have hbw := bt hb1 hb2
  have k3 := pairM_any W0.heap.size g1 c1 w2.heap.size _ xs ys w2 hA12 (hA2.ints g1 (by omega)) HL.out hbx hby
  go_wp2_with fail
  refine k3.mono ?_
  rintro e w3 ⟨rfl, hA3, hgr⟩
  clear k3
  go_wp2
  go_ret
  have hle : (List.zipWith (· - ·) xs ys).length = xs.length := by rw [List.length_zipWith]; have := HL.out; omega
  have := grown_ans hb0 hbw hg1.1 hgr hA3
  rw [hle] at this
  exact this
set_option maxHeartbeats 2000000 in
set_option maxRecDepth 100000 in
theorem ans6_any (c : ByteArray) (lo hi : Int) (cv rv wv : Value) (b o cap : Nat) (w : World) (B : Nat) (l : List Col) (ts : List Rw) (wh : List Tst) (hB : B ≤ w.heap.size) (hp : Cols w B cv l) (hr : Rws w B rv ts) (hw : Tss w B wv wh) (hbB : b < B) (x : Qu) (u0 u1 u2 u3 u4 u5 : Value) (hu : At6 w b o u0 u1 u2 u3 u4 u5) (hqx : Qm w B x u0 u1 u2 u3 u4 u5) (xs : List Int) (kx : ∀ W, Below w.heap.size w W → Calls Tryz.prog 73 #[.agg #[cv, rv], .agg #[u0, u1, u2, u3, u4, u5]] W (AnsP W xs)) (hbx : Bdd 1099511627776 xs) (hlo : -1048576 ≤ lo ∧ lo ≤ 1048576) :
    Calls Tryz.prog 73 #[.agg #[cv, rv], .agg #[.int .i64 6, .string c, .int .i64 lo, .int .i64 hi, wv, .slice (some ⟨b, o, none⟩) 1 cap]] w (AnsP w (xs.map (lo * ·))) := by
  have ab := Ab.new w cv rv 6 c lo hi wv (.slice (some ⟨b, o, none⟩) 1 cap)
  have hb0 := b3a w (.cells #[cv, rv] 27) (.cells #[.int .i64 6, .string c, .int .i64 lo, .int .i64 hi, wv, .slice (some ⟨b, o, none⟩) 1 cap] 31) (.cells #[.func (.func 126) #[] #[.pointer (some ⟨w.heap.size + 1, 0, none⟩)]] 162)
  obtain ⟨W0, hW0⟩ : ∃ W0, (((w.alloc (.cells #[cv, rv] 27)).alloc (.cells #[.int .i64 6, .string c, .int .i64 lo, .int .i64 hi, wv, .slice (some ⟨b, o, none⟩) 1 cap] 31)).alloc (.cells #[.func (.func 126) #[] #[.pointer (some ⟨w.heap.size + 1, 0, none⟩)]] 162)) = W0 := ⟨_, rfl⟩
  rw [hW0] at ab hb0
  have HW0 : Hid ((((w.alloc (.cells #[cv, rv] 27)).alloc (.cells #[.int .i64 6, .string c, .int .i64 lo, .int .i64 hi, wv, .slice (some ⟨b, o, none⟩) 1 cap] 31)).alloc (.cells #[.func (.func 126) #[] #[.pointer (some ⟨w.heap.size + 1, 0, none⟩)]] 162)) = W0) := hW0
  have k1 := kid0_any w.heap.size (w.heap.size + 1) cv rv b o 1 cap (by omega) xs W0 ab.t0.c ab.t1.c ab.a5.c B x u0 u1 u2 u3 u4 u5 (hu.keep hb0 (Nat.lt_of_lt_of_le hbB hB)) (hqx.at hB hb0) l ts (hp.at hB hb0) (hr.at hB hb0) (kx _ hb0.drew)
  have HAB : Hid (Ab W0 w.heap.size cv rv 6 c lo hi wv (.slice (some ⟨b, o, none⟩) 1 cap)) := ab
  obtain ⟨ca, ccp, rfl, _⟩ := hp.slice
  obtain ⟨ra, rc, rfl, _⟩ := hr.slice
  obtain ⟨wa, wc, rfl, _⟩ := hw.slice
  have hmf := hmf
  have m0 := HAB.out.a0.c
  clear hp hr hw hu hqx kx ab
  go_enter Tryz.func73, Tryz.ntmps73
  go_wp2_with fail
  refine k1.mono ?_
  rintro e w1 ⟨g1, c1, rfl, hA1, hb1⟩
  clear k1
  have hg1 := hA1.lt
  have ab1 := HAB.out.at hb1
  have k3 := eachT_any W0.heap.size g1 c1 (w.heap.size + 1) xs w1 hA1 lo hbx ab1.a2.c hlo (by have := HAB.out.a2.lt; omega)
  clear ab1
  go_wp2_with fail
  refine k3.mono ?_
  rintro e w3 ⟨rfl, hA3, hgr⟩
  clear k3
  go_wp2
  go_ret
  have := grown_ans hb0 hb1 hg1.1 hgr hA3
  rw [List.length_map] at this
  exact this
set_option maxHeartbeats 2000000 in
set_option maxRecDepth 100000 in
theorem ans7_any (c : ByteArray) (lo hi : Int) (cv rv wv : Value) (b o cap : Nat) (w : World) (B : Nat) (l : List Col) (ts : List Rw) (wh : List Tst) (hB : B ≤ w.heap.size) (hp : Cols w B cv l) (hr : Rws w B rv ts) (hw : Tss w B wv wh) (hbB : b < B) (x : Qu) (u0 u1 u2 u3 u4 u5 : Value) (hu : At6 w b o u0 u1 u2 u3 u4 u5) (hqx : Qm w B x u0 u1 u2 u3 u4 u5) (xs : List Int) (kx : ∀ W, Below w.heap.size w W → Calls Tryz.prog 73 #[.agg #[cv, rv], .agg #[u0, u1, u2, u3, u4, u5]] W (AnsP W xs)) (y : Qu) (z0 z1 z2 z3 z4 z5 : Value) (hz : At6 w b (o + 6) z0 z1 z2 z3 z4 z5) (hqy : Qm w B y z0 z1 z2 z3 z4 z5) (ys : List Int) (ky : ∀ W, Below w.heap.size w W → Calls Tryz.prog 73 #[.agg #[cv, rv], .agg #[z0, z1, z2, z3, z4, z5]] W (AnsP W ys)) (hl : xs.length + ys.length ≤ 1048576) :
    Calls Tryz.prog 73 #[.agg #[cv, rv], .agg #[.int .i64 7, .string c, .int .i64 lo, .int .i64 hi, wv, .slice (some ⟨b, o, none⟩) 2 cap]] w (AnsP w (xs ++ ys)) := by
  have ab := Ab.new w cv rv 7 c lo hi wv (.slice (some ⟨b, o, none⟩) 2 cap)
  have hb0 := b3a w (.cells #[cv, rv] 27) (.cells #[.int .i64 7, .string c, .int .i64 lo, .int .i64 hi, wv, .slice (some ⟨b, o, none⟩) 2 cap] 31) (.cells #[.func (.func 126) #[] #[.pointer (some ⟨w.heap.size + 1, 0, none⟩)]] 162)
  obtain ⟨W0, hW0⟩ : ∃ W0, (((w.alloc (.cells #[cv, rv] 27)).alloc (.cells #[.int .i64 7, .string c, .int .i64 lo, .int .i64 hi, wv, .slice (some ⟨b, o, none⟩) 2 cap] 31)).alloc (.cells #[.func (.func 126) #[] #[.pointer (some ⟨w.heap.size + 1, 0, none⟩)]] 162)) = W0 := ⟨_, rfl⟩
  rw [hW0] at ab hb0
  have HW0 : Hid ((((w.alloc (.cells #[cv, rv] 27)).alloc (.cells #[.int .i64 7, .string c, .int .i64 lo, .int .i64 hi, wv, .slice (some ⟨b, o, none⟩) 2 cap] 31)).alloc (.cells #[.func (.func 126) #[] #[.pointer (some ⟨w.heap.size + 1, 0, none⟩)]] 162)) = W0) := hW0
  have k1 := kid0_any w.heap.size (w.heap.size + 1) cv rv b o 2 cap (by omega) xs W0 ab.t0.c ab.t1.c ab.a5.c B x u0 u1 u2 u3 u4 u5 (hu.keep hb0 (Nat.lt_of_lt_of_le hbB hB)) (hqx.at hB hb0) l ts (hp.at hB hb0) (hr.at hB hb0) (kx _ hb0.drew)
  have HK : ∀ w1, Below W0.heap.size W0 w1 → Calls Tryz.prog 127 #[.int .i64 1, .pointer (some ⟨w.heap.size, 0, none⟩), .pointer (some ⟨w.heap.size + 1, 0, none⟩)] w1 (AnsP w1 ys) := fun w1 hb1 =>
    kid1_any w.heap.size (w.heap.size + 1) cv rv b o 2 cap (by omega) ys w1 (ab.at hb1).t0.c (ab.at hb1).t1.c (ab.at hb1).a5.c B y z0 z1 z2 z3 z4 z5 (hz.keep (bt hb0 hb1) (Nat.lt_of_lt_of_le hbB hB)) (hqy.at hB (bt hb0 hb1)) l ts (hp.at hB (bt hb0 hb1)) (hr.at hB (bt hb0 hb1)) (ky _ (bt hb0 hb1).drew)
  have HAB : Hid (Ab W0 w.heap.size cv rv 7 c lo hi wv (.slice (some ⟨b, o, none⟩) 2 cap)) := ab
  obtain ⟨ca, ccp, rfl, _⟩ := hp.slice
  obtain ⟨ra, rc, rfl, _⟩ := hr.slice
  obtain ⟨wa, wc, rfl, _⟩ := hw.slice
  have hmf := hmf
  have m0 := HAB.out.a0.c
  clear hp hr hw hu hqx kx ab hz hqy ky
  go_enter Tryz.func73, Tryz.ntmps73
  obtain ⟨i0, hi0, hz0, hz1, hz2⟩ := info_parts info3
  have HL : Hid (xs.length + ys.length ≤ 1048576) := hl
  clear hl
  go_wp2_with fail
  refine k1.mono ?_
  rintro e w1 ⟨g1, c1, rfl, hA1, hb1⟩
  clear k1
  have hg1 := hA1.lt
  have k2 := HK w1 hb1
  clear HK
  go_wp2_with fail
  refine k2.mono ?_
  rintro e w2 ⟨g2, c2, rfl, hA2, hb2⟩
  clear k2
  have hg2 := hA2.lt
  have hA12 := hA1.at hb2
  have hbw := bt hb1 hb2
  have HA2 : Hid (Arw w2 w1.heap.size g2 c2 ys) := hA2
  have HA12 : Hid (Arw w2 W0.heap.size g1 c1 xs) := hA12
  have hs2 : Hid (W0.heap.size ≤ w2.heap.size) := hbw.size
  clear hA1 hA2 hA12
  go_wp2_with (at_builtin; refine wpList_append_own _ rfl _ _ 65 rfl W0.heap.size 3 i0 (.int .i64 0) 1 8 Tryz.underlying65 hi0 hz0 hz1 hz2 rfl (by decide) _ _ _ rfl HA12.out ⟨g2, 0, none⟩ ys.length c2 (ys.map (.int .i64)) rfl ?q1 ?q2 ?q3 ?q4 ?q5 ?q6 ?_)
  case q1 => simp
  case q2 => exact World.ownsRow.cells HA2.out rfl
  case q3 => intro u hu; obtain ⟨z, _, rfl⟩ := List.mem_map.1 hu; rfl
  case q4 => have := HL.out; simp [maxLen]; omega
  case q5 => have := HL.out; omega
  case q6 => exact hs2.out
  intro v3 w3 hown3 hgrow hnil
  obtain ⟨g3, c3, rfl, hg3, _⟩ := owns_some hown3 hnil
  have hA3 : Arw w3 W0.heap.size g3 c3 (xs ++ ys) := by simpa [Arw] using hown3
  have hbw3 : Below w.heap.size w w3 := (bt hb0 hbw).trans (below_gb (E := g1) hgrow (Nat.le_trans hb0.size hg1.1) (Nat.le_trans hb0.size hs2.out))
  clear hgrow hnil hown3
  go_wp2
  go_ret
  exact ⟨g3, c3, by rw [List.length_append]; rfl, hA3.mono hb0.size, hbw3⟩
set_option maxHeartbeats 2000000 in
set_option maxRecDepth 100000 in
theorem ans8_any (c : ByteArray) (lo hi : Int) (cv rv wv : Value) (b o cap : Nat) (w : World) (B : Nat) (l : List Col) (ts : List Rw) (wh : List Tst) (hB : B ≤ w.heap.size) (hp : Cols w B cv l) (hr : Rws w B rv ts) (hw : Tss w B wv wh) (hbB : b < B) (x : Qu) (u0 u1 u2 u3 u4 u5 : Value) (hu : At6 w b o u0 u1 u2 u3 u4 u5) (hqx : Qm w B x u0 u1 u2 u3 u4 u5) (xs : List Int) (kx : ∀ W, Below w.heap.size w W → Calls Tryz.prog 73 #[.agg #[cv, rv], .agg #[u0, u1, u2, u3, u4, u5]] W (AnsP W xs)) (hbx : Bdd 1099511627776 xs) (hl : xs.length ≤ 4096) :
    Calls Tryz.prog 73 #[.agg #[cv, rv], .agg #[.int .i64 8, .string c, .int .i64 lo, .int .i64 hi, wv, .slice (some ⟨b, o, none⟩) 1 cap]] w (AnsP w ([smL xs])) := by
  have ab := Ab.new w cv rv 8 c lo hi wv (.slice (some ⟨b, o, none⟩) 1 cap)
  have hb0 := b3a w (.cells #[cv, rv] 27) (.cells #[.int .i64 8, .string c, .int .i64 lo, .int .i64 hi, wv, .slice (some ⟨b, o, none⟩) 1 cap] 31) (.cells #[.func (.func 126) #[] #[.pointer (some ⟨w.heap.size + 1, 0, none⟩)]] 162)
  obtain ⟨W0, hW0⟩ : ∃ W0, (((w.alloc (.cells #[cv, rv] 27)).alloc (.cells #[.int .i64 8, .string c, .int .i64 lo, .int .i64 hi, wv, .slice (some ⟨b, o, none⟩) 1 cap] 31)).alloc (.cells #[.func (.func 126) #[] #[.pointer (some ⟨w.heap.size + 1, 0, none⟩)]] 162)) = W0 := ⟨_, rfl⟩
  rw [hW0] at ab hb0
  have HW0 : Hid ((((w.alloc (.cells #[cv, rv] 27)).alloc (.cells #[.int .i64 8, .string c, .int .i64 lo, .int .i64 hi, wv, .slice (some ⟨b, o, none⟩) 1 cap] 31)).alloc (.cells #[.func (.func 126) #[] #[.pointer (some ⟨w.heap.size + 1, 0, none⟩)]] 162)) = W0) := hW0
  have k1 := kid0_any w.heap.size (w.heap.size + 1) cv rv b o 1 cap (by omega) xs W0 ab.t0.c ab.t1.c ab.a5.c B x u0 u1 u2 u3 u4 u5 (hu.keep hb0 (Nat.lt_of_lt_of_le hbB hB)) (hqx.at hB hb0) l ts (hp.at hB hb0) (hr.at hB hb0) (kx _ hb0.drew)
  have HAB : Hid (Ab W0 w.heap.size cv rv 8 c lo hi wv (.slice (some ⟨b, o, none⟩) 1 cap)) := ab
  obtain ⟨ca, ccp, rfl, _⟩ := hp.slice
  obtain ⟨ra, rc, rfl, _⟩ := hr.slice
  obtain ⟨wa, wc, rfl, _⟩ := hw.slice
  have hmf := hmf
  have m0 := HAB.out.a0.c
  clear hp hr hw hu hqx kx ab
  go_enter Tryz.func73, Tryz.ntmps73
  go_wp2_with fail
  refine k1.mono ?_
  rintro e w1 ⟨g1, c1, rfl, hA1, hb1⟩
  clear k1
  have hg1 := hA1.lt
  have k3 := total_any w1.heap.size w1.heap.size _ xs w1 (Nat.le_refl _) (hA1.ints w1.heap.size (by omega)) hl hbx _ rfl
  go_wp2_with fail
  refine k3.mono ?_
  rintro e w3 ⟨rfl, hw3⟩
  subst hw3
  clear k3
  go_wp2
  go_ret
  exact ⟨w3.heap.size, 1, rfl, Arw.lit _ _ _ (Nat.le_trans hb0.size hb1.size), bt hb0 (bal hb1 _)⟩
end Go.Proofs.YtlndlpjadajelaaGreat.K
